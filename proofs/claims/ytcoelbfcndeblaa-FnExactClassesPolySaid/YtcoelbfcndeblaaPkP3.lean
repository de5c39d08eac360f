/-
  Texts SumF to ClsTermEq, merged. Conditions: as each says.
-/
import Derived.Laws.CopyOwn
import Derived.BigRegion
import Derived.Shelf.SlSortCmp.WholeK
import Derived.Test.YtcoelbfcndeblaaLayT
import Derived.Deep.RegionHeld3
import Derived.Deep.MidRow
import Derived.RegionTactic
import Derived.Test.YtcoelbfcndeblaaPkP2
/-
  The program's polynomials under construction: the operators of Demazure and their kin. Conditions: exponents from 0 to 120.
-/

namespace Go.Proofs.Ytcoelbfcndeblaa
open Go.RowKit

/-- What a function that makes a polynomial hands back: one with the coefficients of L and exponents up to d. -/
def FreshS (w w' : World) (r : Ending) (d : Int) (L : List Mn) : Prop :=
  ∃ g b M, r = .returned (.pointer (some ⟨g, 0, none⟩)) ∧ SumP w' g b M ∧ w.heap.size ≤ g ∧ w.heap.size ≤ b ∧ sameC (openM M) L ∧ capE d M ∧ Below w.heap.size w w'
def demL (i : Nat) (l : List Mn) : List Mn := divL i (shiftL i l)
theorem sameC.dem {a b : List Mn} (i : Nat) (h : sameC a b) : sameC (demL i a) (demL i b) := (h.lin _).lin _
set_option maxHeartbeats 400000 in
theorem demazure_any (gp bp : Nat) (Mp : List Tm) (i : Nat) (d : Int) (w : World) (hp : SumP w gp bp Mp) (hcp : capE d Mp) (hd : d ≤ 126) (hi : i < 6) :
    Calls Try.prog 95 #[.pointer (some ⟨gp, 0, none⟩), .int .i64 i] w fun r w' => FreshS w w' r (d + 1) (demL i (openM Mp)) := by
  have HC := Lib.hid (timesVar_any gp bp Mp i d w hp hcp hd (by omega))
  clear hp hcp hd
  go_enter Try.func95, Try.ntmps95
  go_wp2_with (first
    | (go_at_call 164; refine HC.out.mono ?_; rintro r w1 ⟨g1, b1, M1, rfl, hs1, _, _, hm1, hc1, hb1⟩; have HS1 := Lib.hid hs1; have HM1 := Lib.hid hm1; have HC1 := Lib.hid hc1; have HB1 := Lib.hid hb1; clear hs1 hm1 hc1 hb1)
    | (go_at_call 83; refine (divDiff_any g1 b1 M1 i (d + 1) _ HS1.out HC1.out hi).mono ?_; rintro r w2 ⟨g2, b2, M2, rfl, hs2, hg2, hb2, hm2, hc2, hl2⟩; have HS2 := Lib.hid hs2; have HM2 := Lib.hid hm2; have HC2 := Lib.hid hc2; have HB2 := Lib.hid hl2; have HG2 := Lib.hid (And.intro hg2 hb2); clear hs2 hm2 hc2 hl2 hg2 hb2))
  go_ret
  exact ⟨g2, b2, M2, rfl, HS2.out, Nat.le_trans HB1.out.size HG2.out.1, Nat.le_trans HB1.out.size HG2.out.2, HM2.out.trans (HM1.out.lin _), HC2.out, HB1.out.trans (HB2.out.mono HB1.out.size)⟩
set_option maxHeartbeats 400000 in
theorem divided_any (gp bp : Nat) (Mp : List Tm) (i : Nat) (d : Int) (w : World) (hp : SumP w gp bp Mp) (hcp : capE d Mp) (hi : i < 6) :
    Calls Try.prog 83 #[.pointer (some ⟨gp, 0, none⟩), .int .i64 i] w fun r w' => FreshS w w' r d (divL i (openM Mp)) :=
  (divDiff_any gp bp Mp i d w hp hcp hi).mono fun _ _ ⟨g, b, M, h1, h2, h3, h4, h5, h6, h7⟩ => ⟨g, b, M, h1, h2, h3, h4, h5, h6, h7⟩
set_option maxHeartbeats 400000 in
theorem atom_any (gp bp : Nat) (Mp : List Tm) (i : Nat) (d : Int) (w : World) (hp : SumP w gp bp Mp) (hcp : capE d Mp) (hd : d ≤ 126) (hi : i < 6) :
    Calls Try.prog 96 #[.pointer (some ⟨gp, 0, none⟩), .int .i64 i] w fun r w' => FreshS w w' r (d + 1) (demL i (openM Mp) ++ scaleM (-1) (openM Mp)) := by
  have HC := Lib.hid (demazure_any gp bp Mp i d w hp hcp hd hi)
  have HP := Lib.hid hp
  have HCP := Lib.hid hcp
  have HL := Lib.hid (And.intro hp.1.lt hp.2.lt)
  clear hp hcp hd
  go_enter Try.func96, Try.ntmps96
  go_wp2_with (first
    | (go_at_call 95; refine HC.out.mono ?_; rintro r w1 ⟨g1, b1, M1, rfl, hs1, hg1, hb1, hm1, hc1, hl1⟩; have HS1 := Lib.hid hs1; have HM1 := Lib.hid hm1; have HC1 := Lib.hid hc1; have HB1 := Lib.hid hl1; have HG1 := Lib.hid (And.intro hg1 hb1); clear hs1 hm1 hc1 hl1 hg1 hb1)
    | (go_at_call 98; refine (addTimes_any g1 b1 gp bp M1 Mp (-1) (d + 1) _ HS1.out (HP.out.below HB1.out HL.out.1 HL.out.2) (by have := HL.out.2; have := HG1.out.2; omega) HC1.out (HCP.out.mono (by omega))).mono ?_; rintro r w2 ⟨rfl, M2, hs2, hm2, hc2, hg2⟩; have HS2 := Lib.hid hs2; have HM2 := Lib.hid hm2; have HC2 := Lib.hid hc2; have HG2 := Lib.hid hg2; clear hs2 hm2 hc2 hg2))
  go_ret
  exact ⟨g1, b1, M2, rfl, HS2.out, HG1.out.1, HG1.out.2, HM2.out.trans (HM1.out.app (sameC.refl _)), HC2.out, HB1.out.trans (grown_belowM HG2.out HB1.out.size (fun j hj => by injection hj with hj; have := HG1.out.2; omega))⟩
theorem timesVar_at {j : Int} (gp bp : Nat) (Mp : List Tm) (i : Nat) (hj : j = (i : Int)) (d : Int) (w : World) (hp : SumP w gp bp Mp) (hcp : capE d Mp) (hd : d ≤ 126) (hi : i < 7) :
    Calls Try.prog 164 #[.pointer (some ⟨gp, 0, none⟩), .int .i64 j] w fun r w' => FreshS w w' r (d + 1) (shiftL i (openM Mp)) := by
  subst hj
  exact (timesVar_any gp bp Mp i d w hp hcp hd hi).mono fun _ _ ⟨g, b, M, h1, h2, h3, h4, h5, h6, h7⟩ => ⟨g, b, M, h1, h2, h3, h4, h5, h6, h7⟩
def isoL (i : Nat) (l : List Mn) : List Mn := divL i l ++ scaleM (-1) (divL i (shiftL (i + 1) l))
set_option maxHeartbeats 400000 in
theorem isobaric_any (gp bp : Nat) (Mp : List Tm) (i : Nat) (d : Int) (w : World) (hp : SumP w gp bp Mp) (hcp : capE d Mp) (hd : d ≤ 126) (hi : i < 6) :
    Calls Try.prog 165 #[.pointer (some ⟨gp, 0, none⟩), .int .i64 i] w fun r w' => FreshS w w' r (d + 1) (isoL i (openM Mp)) := by
  have HC := Lib.hid (divided_any gp bp Mp i d w hp hcp hi)
  have HP := Lib.hid hp
  have HCP := Lib.hid hcp
  have HL := Lib.hid (And.intro hp.1.lt hp.2.lt)
  have HD := Lib.hid hd
  have hw1 : IntKind.i64.wrap ((i : Int) + 1) = (i : Int) + 1 := IntWalk.i64_in _ (by omega)
  clear hp hcp hd
  go_enter Try.func165, Try.ntmps165
  go_wp2_with (first
    | (go_at_call 164; refine (timesVar_at gp bp Mp (i + 1) (by omega) d _ (HP.out.below HB1.out HL.out.1 HL.out.2) HCP.out HD.out (by omega)).mono ?_; rintro r w2 ⟨g2, b2, M2, rfl, hs2, hg2, hb2, hm2, hc2, hl2⟩; have HS2 := Lib.hid hs2; have HM2 := Lib.hid hm2; have HC2 := Lib.hid hc2; have HB2 := Lib.hid hl2; have HG2 := Lib.hid (And.intro hg2 hb2); clear hs2 hm2 hc2 hl2 hg2 hb2)
    | (go_at_call 83; first
        | ((with_reducible refine HC.out.mono ?_); rintro r w1 ⟨g1, b1, M1, rfl, hs1, hg1, hb1, hm1, hc1, hl1⟩; have HS1 := Lib.hid hs1; have HM1 := Lib.hid hm1; have HC1 := Lib.hid hc1; have HB1 := Lib.hid hl1; have HG1 := Lib.hid (And.intro hg1 hb1); clear hs1 hm1 hc1 hl1 hg1 hb1)
        | (refine (divided_any g2 b2 M2 i (d + 1) _ HS2.out HC2.out hi).mono ?_; rintro r w3 ⟨g3, b3, M3, rfl, hs3, hg3, hb3, hm3, hc3, hl3⟩; have HS3 := Lib.hid hs3; have HM3 := Lib.hid hm3; have HC3 := Lib.hid hc3; have HB3 := Lib.hid hl3; have HG3 := Lib.hid (And.intro hg3 hb3); clear hs3 hm3 hc3 hl3 hg3 hb3))
    | (go_at_call 98; refine (addTimes_any g1 b1 g3 b3 M1 M3 (-1) (d + 1) _ ((HS1.out.below HB2.out HS1.out.1.lt HS1.out.2.lt).below HB3.out (Nat.lt_of_lt_of_le HS1.out.1.lt HB2.out.size) (Nat.lt_of_lt_of_le HS1.out.2.lt HB2.out.size)) HS3.out (by have := HS1.out.2.lt; have := HB2.out.size; have := HG3.out.2; omega) (HC1.out.mono (by omega)) HC3.out).mono ?_; rintro r w4 ⟨rfl, M4, hs4, hm4, hc4, hg4⟩; have HS4 := Lib.hid hs4; have HM4 := Lib.hid hm4; have HC4 := Lib.hid hc4; have HG4 := Lib.hid hg4; clear hs4 hm4 hc4 hg4))
  go_ret
  have s1 := HB1.out.size
  have s2 := HB2.out.size
  have s3 := HB3.out.size
  refine ⟨g1, b1, M4, rfl, HS4.out, HG1.out.1, HG1.out.2, HM4.out.trans (HM1.out.app ((HM3.out.trans (HM2.out.lin _)).scale _)), HC4.out, ?_⟩
  exact (HB1.out.trans ((HB2.out.mono s1).trans (HB3.out.mono (by omega)))).trans (grown_belowM HG4.out (by omega) (fun j hj => by injection hj with hj; have := HG1.out.2; omega))
end Go.Proofs.Ytcoelbfcndeblaa

/-
  Lists of at most 600 terms: their bounds, and the whole length of a list of terms that is within the bulk. Conditions: as each lemma says.
-/

namespace Go.Proofs.Ytcoelbfcndeblaa
open Go.RowKit

/-- At most 600 terms, at most 7 exponents each. -/
def smallT (ts : List Tm) : Prop := ts.length ≤ 600 ∧ ∀ t ∈ ts, t.1.length ≤ 7
theorem smallT.le {ts : List Tm} (h : smallT ts) : ts.length ≤ 1099511627776 := by have := h.1; omega
theorem smallT.lens {ts : List Tm} (h : smallT ts) (k : Nat) : (tm ts k).1.length ≤ 1099511627776 := by
  by_cases hk : k < ts.length
  · rw [tm_get hk]; have := h.2 _ (List.getElem_mem hk); omega
  · have e : tm ts k = ([], 0) := by simp [tm, List.getD, List.getElem?_eq_none (Nat.le_of_not_lt hk)]
    rw [e]; simp
theorem endT_bound : ∀ (us : List Tm) (q : Int), (∀ t ∈ us, t.1.length ≤ 7) → q ≤ endT us q ∧ endT us q ≤ q + 8 * (us.length : Int)
  | [], q, _ => by simp [endT]
  | t :: r, q, h => by
    have ih := endT_bound r (q + (t.1.length : Int) + 1) (fun s hs => h s (List.mem_cons_of_mem _ hs))
    have h7 := h t List.mem_cons_self
    show q ≤ endT r _ ∧ endT r _ ≤ _
    rw [List.length_cons]
    omega
theorem smallT.ends {ts : List Tm} (h : smallT ts) (k : Nat) : 0 ≤ endT (ts.take k) 1 ∧ endT (ts.take k) 1 ≤ 1099511627776 := by
  have := endT_bound (ts.take k) 1 (fun t ht => h.2 t (List.mem_of_mem_take ht))
  have h1 := h.1
  have h2 : (ts.take k).length ≤ ts.length := by rw [List.length_take]; omega
  omega
end Go.Proofs.Ytcoelbfcndeblaa

/-
  The document's operations on polynomials. Conditions: lengths below 2^40.
-/




namespace Go.Proofs.Ytcoelbfcndeblaa
open Go.RowKit

/-- Keys of exponents up to d. -/
def capK (d : Int) (L : List Mn) : Prop := ∀ t ∈ L, ∃ e, ex7 e ∧ (∀ k, k < 7 → nth e k ≤ d) ∧ t.1 = key7 e
theorem capK.in49 {d : Int} {L : List Mn} (h : capK d L) : ∀ t ∈ L, in49 t.1 := fun t ht => by
  obtain ⟨e, he, _, hk⟩ := h t ht
  rw [hk]; exact key7_range he
theorem capK.in50 {d : Int} {L : List Mn} (h : capK d L) : ∀ t ∈ L, in50 t.1 := fun t ht => by
  have := h.in49 t ht
  unfold Proofs.Ytcoelbfcndeblaa.in49 at this
  unfold Proofs.Ytcoelbfcndeblaa.in50
  omega
theorem capK.mono {d d' : Int} {L : List Mn} (h : capK d L) (hd : d ≤ d') : capK d' L := fun t ht => by
  obtain ⟨e, he, hc, hk⟩ := h t ht
  exact ⟨e, he, fun k hk => Int.le_trans (hc k hk) hd, hk⟩
theorem capK.gather {d : Int} {L : List Mn} (h : capK d L) : capK d (gatherL L) := fun t ht => by
  obtain ⟨v, hv, e⟩ := gatherL_keys L t ht
  rw [e]; exact h v hv
theorem capK.app {d : Int} {a b : List Mn} (h : capK d a) (h' : capK d b) : capK d (a ++ b) := fun t ht => by
  rcases List.mem_append.1 ht with ht | ht
  · exact h t ht
  · exact h' t ht
theorem capK.scale {d : Int} {a : List Mn} (c : Int) (h : capK d a) : capK d (scaleM c a) := fun t ht => by
  unfold scaleM at ht
  obtain ⟨u, hu, rfl⟩ := List.mem_map.1 ht
  exact h u hu
theorem capK.one {d : Int} {e : List Int} (he : ex7 e) (hc : ∀ k, k < 7 → nth e k ≤ d) (c : Int) : capK d [(key7 e, c)] := fun t ht => by
  rw [List.mem_singleton.1 ht]
  exact ⟨e, he, hc, rfl⟩
theorem lin_mem {f : Int → List Mn} {L : List Mn} {t : Mn} (h : t ∈ linL f L) : ∃ u ∈ L, ∃ v ∈ f u.1, t.1 = v.1 := by
  unfold linL at h
  obtain ⟨u, hu, h⟩ := List.mem_flatMap.1 h
  unfold scaleM at h
  obtain ⟨v, hv, rfl⟩ := List.mem_map.1 h
  exact ⟨u, hu, v, hv, rfl⟩
theorem capK.shift {d : Int} {L : List Mn} (h : capK d L) (hd : d ≤ 126) {i : Nat} (hi : i < 7) : capK (d + 1) (shiftL i L) := fun t ht => by
  obtain ⟨u, hu, v, hv, e⟩ := lin_mem ht
  obtain ⟨x, hx, hc, hk⟩ := h u hu
  unfold shiftF at hv
  rw [List.mem_singleton.1 hv] at e
  have h1 := hx.2 i hi
  have h2 := hc i hi
  refine ⟨incE x i, set_ex7 hx hi (by omega), fun k hk7 => ?_, ?_⟩
  · unfold incE
    rw [set_nth (by rw [hx.1]; exact hi) _ (by rw [hx.1]; exact hk7)]
    have := hc k hk7
    split <;> omega
  · rw [e, hk]
    unfold incE
    rw [set_key hx.1 hi]; show key7 x + unitI i = _; rw [show nth x i + 1 - nth x i = 1 by omega, Int.one_mul]
theorem capK.div {d : Int} {L : List Mn} (h : capK d L) {i : Nat} (hi : i < 6) : capK d (divL i L) := fun t ht => by
  obtain ⟨u, hu, v, hv, e⟩ := lin_mem ht
  obtain ⟨x, hx, hc, hk⟩ := h u hu
  unfold divF at hv
  obtain ⟨y, hy, rfl⟩ := List.mem_map.1 hv
  rw [hk, divK_key hx hi] at hy
  obtain ⟨z, hz, rfl⟩ := List.mem_map.1 hy
  unfold ddE at hz
  obtain ⟨j, hj, rfl⟩ := List.mem_map.1 hz
  have hj' := List.mem_range.1 hj
  have h1 := hx.2 i (by omega)
  have h2 := hx.2 (i + 1) (by omega)
  have h3 := hc i (by omega)
  have h4 := hc (i + 1) (by omega)
  refine ⟨_, putE_ex7 hx hi (by omega) (by omega), fun k hk7 => ?_, e⟩
  rw [putE_nth (by rw [hx.1]; omega) _ _ (by rw [hx.1]; exact hk7)]
  have := hc k hk7
  split
  · omega
  · split <;> omega
theorem capK.times {d d' : Int} {a b : List Mn} (h : capK d a) (h' : capK d' b) (hd : d + d' ≤ 127) : capK (d + d') (timesL a b) := fun t ht => by
  obtain ⟨u, hu, v, hv, e⟩ := lin_mem ht
  obtain ⟨y, hy, rfl⟩ := List.mem_map.1 hv
  obtain ⟨x, hx, hc, hk⟩ := h u hu
  obtain ⟨x', hx', hc', hk'⟩ := h' y hy
  refine ⟨addP x' x 7, ⟨addP_len _ _ _, fun k hk7 => ?_⟩, fun k hk7 => ?_, ?_⟩
  · rw [addP_nth _ _ _ hk7, if_pos hk7]
    have := hx.2 k hk7; have := hx'.2 k hk7; have := hc k hk7; have := hc' k hk7; omega
  · rw [addP_nth _ _ _ hk7, if_pos hk7]
    have := hc k hk7; have := hc' k hk7; omega
  · rw [e, hk, hk', addP_key hx'.1 hx.1]
theorem polyB_cap {ts : List Tm} (h : polyB ts = true) : ∀ u ∈ ts, ∀ k, k < 7 → nth u.1 k ≤ 24 := fun u hu k hk => by
  have hg := (goodT_iff _).1 (polyB_good' h u hu)
  exact (smallE_nth hg.2.1 (by rw [hg.1]; exact hk)).2
theorem openM_cap {ts : List Tm} (h : polyB ts = true) : capK 24 (openM ts) := fun t ht => by
  unfold openM at ht
  obtain ⟨u, hu, rfl⟩ := List.mem_map.1 ht
  exact ⟨u.1, polyB_ex7 h u hu, polyB_cap h u hu, rfl⟩
theorem gather_in64 (l : List Mn) : ∀ t ∈ gatherL l, in64 t.2 := fun t ht => ((gatherL_canon l).2 t ht).2
theorem shift_len (i : Nat) (l : List Mn) : (shiftL i l).length = l.length := by rw [shift_times, times_len]; simp

/-- What a function that makes a polynomial, or fails, hands back. -/
def FreshTB (w w' : World) (e : Ending) (b : Bool) (ts : List Tm) : Prop :=
  ∃ A n c, e = .returned (.tuple #[.slice A n c, .bool b]) ∧ OwnT w' w.heap.size w'.heap.size A n c ts ∧ Below w.heap.size w w'
def outB (ok : Bool) (L : List Mn) : Bool := ok && polyB (termsK (gatherL L))
def outL (ok : Bool) (L : List Mn) : List Tm := if ok = true then shutL (gatherL L) else []
theorem outL_small (ok : Bool) (L : List Mn) : smallT (outL ok L) := by
  unfold outL
  split
  · unfold shutL
    split
    · rename_i h
      exact ⟨polyB_len h, fun t ht => by have := ((goodT_iff _).1 (polyB_good' h t ht)).1; omega⟩
    · exact ⟨by simp, fun t ht => by simp at ht⟩
  · exact ⟨by simp, fun t ht => by simp at ht⟩
theorem outB_no {ok : Bool} {L : List Mn} (h : ok = false) : outB ok L = false ∧ outL ok L = [] := by subst h; exact ⟨rfl, rfl⟩
theorem outB_yes {ok : Bool} {L : List Mn} (h : ok = true) : outB ok L = polyB (termsK (gatherL L)) ∧ outL ok L = shutL (gatherL L) := by subst h; exact ⟨rfl, rfl⟩
theorem FreshTB.nil_ret {w w' : World} (h : Below w.heap.size w w') : FreshTB w w' (.returned (.tuple #[.slice none 0 0, .bool false])) false [] := ⟨none, 0, 0, rfl, OwnT.nil _ _ _, h⟩
def opOk (ts : List Tm) (i : Int) : Bool := polyB ts && decide (0 ≤ i ∧ i ≤ 5)
def addOk (ts us : List Tm) (k : Int) : Bool := polyB ts && polyB us && decide (-1000 ≤ k ∧ k ≤ 1000)
def mulOk (ts us : List Tm) : Bool := polyB ts && polyB us
def ddP (ts : List Tm) (i : Int) : List Mn := divL i.toNat (openM ts)
def deP (ts : List Tm) (i : Int) : List Mn := demL i.toNat (openM ts)
def atP (ts : List Tm) (i : Int) : List Mn := demL i.toNat (openM ts) ++ scaleM (-1) (openM ts)
def isP (ts : List Tm) (i : Int) : List Mn := divL i.toNat (openM ts ++ scaleM (-1) (shiftL (i.toNat + 1) (openM ts)))
def adP (ts : List Tm) (k : Int) (us : List Tm) : List Mn := openM ts ++ scaleM k (openM us)
def muP (ts us : List Tm) : List Mn := timesL (openM ts) (openM us)
/-- A slice of one term. -/
theorem MS.lit1 (w : World) (x z : Int) : MS (w.alloc (.cells #[.int .i64 x, .int .i64 z] 163)) (some ⟨w.heap.size, 0, none⟩) 1 [(x, z)] := by
  refine ⟨rfl, fun _ => ⟨w.heap.size, 0, rfl, by simp, fun k hk => ?_⟩⟩
  have hb := Blk.new w 163 #[.int .i64 x, .int .i64 z]
  obtain rfl : k = 0 := by omega
  exact ⟨hb.cell 0, hb.cell 1⟩
set_option maxRecDepth 100000 in
set_option maxHeartbeats 1000000 in
theorem specDividedDifference_any (A : Option Addr) (n c : Nat) (ts : List Tm) (i : Int) (w : World) (hs : TS w A n ts) (hn : n ≤ 1099511627776) (hne : ∀ k, k < n → (tm ts k).1.length ≤ 1099511627776) :
    Calls Try.prog 19 #[.slice A n c, .int .i64 i] w fun r w' => FreshTB w w' r (outB (opOk ts i) (ddP ts i)) (outL (opOk ts i) (ddP ts i)) := by
  have hP := specPolyOk_any A n c ts w hs hn hne
  have hV := fun w => l2Variable_any i w
  cases hu : polyB ts with
  | false =>
    rw [hu] at hP
    have HE := Lib.hid (outB_no (ok := opOk ts i) (L := ddP ts i) (by unfold opOk; rw [hu]; rfl))
    have HP := Lib.hid hP
    clear hP hu hV
    go_enter Try.func19, Try.ntmps19
    go_wp2_with (go_at_call 84; refine HP.out.mono ?_; rintro e w7 ⟨rfl, hd7⟩; have HD7 := Lib.hid hd7; clear hd7)
    go_ret2
    rw [HE.out.1, HE.out.2]
    exact FreshTB.nil_ret (HD7.out.below _)
  | true =>
    rw [hu] at hP
    by_cases hi : 0 ≤ i ∧ i ≤ 5
    · have HE := Lib.hid (outB_yes (ok := opOk ts i) (L := ddP ts i) (by unfold opOk; rw [hu, decide_eq_true hi]; rfl))
      obtain ⟨m, rfl⟩ : ∃ m : Nat, i = m := ⟨i.toNat, by omega⟩
      have hm5 : m < 6 := by omega
      have h64 : ∀ u ∈ ts, in64 u.2 := fun u hu' => (good_in64 (polyB_good' hu u hu')).2
      have hnl : n ≤ 600 := by have := polyB_len hu; have := hs.1; omega
      have HKK := Lib.hid (openM_cap hu)
      have H64 := Lib.hid (open_in64 h64)
      have HL := Lib.hid hs.1
      rw [decide_eq_true hi] at hV
      have HP := Lib.hid hP
      have HV := Lib.hid hV
      have HOP := Lib.hid (fun w' (hd : Below w.heap.size w w') => l2Open_any A n c ts w' (hs.below hd (Nat.le_refl _)) (by omega) (fun k hk => by
        have := (goodT_iff _).1 (polyB_good hu (k := k) (by rw [hs.1]; exact hk))
        exact ⟨this.1, this.2.1⟩))
      clear hP hu hV hi h64 hs
      go_enter Try.func19, Try.ntmps19
      go_wp2_with (first
        | (go_at_call 84; refine HP.out.mono ?_; rintro e w7 ⟨rfl, hd7⟩; have HD7 := Lib.hid (hd7.below w.heap.size); clear hd7)
        | (go_at_call 88; refine (HV.out _).mono ?_; rintro e w8 ⟨rfl, rfl⟩)
        | (go_at_call 87; refine (HOP.out _ HD7.out).mono ?_; rintro e w1 ⟨A1, n1, c1, rfl, ho, hb⟩
           obtain rfl : n = n1 := by have := ho.len; unfold openM at this; rw [List.length_map, HL.out] at this; exact this
           have HB1 : Hid (Below w.heap.size w w1) := Lib.hid (HD7.out.trans (hb.mono HD7.out.size))
           have HO1 := Lib.hid ho
           have HS1 := Lib.hid hb
           clear ho hb)
        | (go_at_call 89; refine (l2Divided_any A1 n c1 (openM ts) m _ HO1.out.si (by omega) hm5 HKK.out.in49 H64.out).mono ?_; rintro e w2 ⟨A2, n2, c2, rfl, ho, hb⟩
           have HN2 : Hid (n2 ≤ 1000000) := Lib.hid (by
             have h1 := ho.len
             have h2 := gatherL_len (divL m (openM ts))
             have h3 := div_len m (openM ts)
             have h4 := HO1.out.len
             omega)
           have HB2 : Hid (Below w.heap.size w w2) := Lib.hid (HB1.out.trans (hb.mono HB1.out.size))
           have HO2 := Lib.hid ho
           have HS2 := Lib.hid hb
           clear ho hb)
        | (go_at_call 85; refine (l2Shut_any A2 n2 c2 _ _ HO2.out.si (by have := HN2.out; omega) (((HKK.out.div hm5).gather).in49)).mono ?_; rintro e w3 ⟨A3, n3, c3, rfl, ho, hb⟩
           have HB3 : Hid (Below w.heap.size w w3) := Lib.hid (HB2.out.trans (hb.mono HB2.out.size))
           have HO3 := Lib.hid ho
           have HZ3 := Lib.hid HB2.out.size
           clear ho hb))
      go_ret2
      rw [HE.out.1, HE.out.2]
      rw [show ddP ts (m : Int) = divL m (openM ts) by unfold ddP; rw [Int.toNat_natCast]]
      exact ⟨A3, n3, c3, rfl, HO3.out.wide HZ3.out (Nat.le_refl _), HB3.out⟩
    · have HE := Lib.hid (outB_no (ok := opOk ts i) (L := ddP ts i) (by unfold opOk; rw [decide_eq_false hi, Bool.and_false]))
      rw [decide_eq_false hi] at hV
      have HP := Lib.hid hP
      have HV := Lib.hid hV
      clear hP hu hV hi
      go_enter Try.func19, Try.ntmps19
      go_wp2_with (first
        | (go_at_call 84; refine HP.out.mono ?_; rintro e w7 ⟨rfl, hd7⟩; have HD7 := Lib.hid hd7; clear hd7)
        | (go_at_call 88; refine (HV.out _).mono ?_; rintro e w8 ⟨rfl, rfl⟩))
      go_ret2
      rw [HE.out.1, HE.out.2]
      exact FreshTB.nil_ret (HD7.out.below _)
end Go.Proofs.Ytcoelbfcndeblaa

/-
  Lists that are exchanged at their first ascents until they descend, and what operators make on the way back: plain lemmas. Conditions: seven numbers from 0 to 127.
-/


namespace Go.Proofs.Ytcoelbfcndeblaa
open Go.RowKit

def firstFrom (e : List Int) : Nat → Nat → Option Nat
  | 0, _ => none
  | f + 1, k => if nth e k < nth e (k + 1) then some k else firstFrom e f (k + 1)
/-- The first place at which a list of seven ascends. -/
def firstUp (e : List Int) : Option Nat := firstFrom e 6 0
theorem firstFrom_none {e : List Int} : ∀ {f k : Nat}, (∀ j, k ≤ j → j < k + f → ¬ nth e j < nth e (j + 1)) → firstFrom e f k = none
  | 0, _, _ => rfl
  | f + 1, k, h => by
    unfold firstFrom
    rw [if_neg (h k (Nat.le_refl _) (by omega))]
    exact firstFrom_none fun j h1 h2 => h j (by omega) (by omega)
theorem firstFrom_some {e : List Int} {m : Nat} (hm : nth e m < nth e (m + 1)) : ∀ {f k : Nat}, k ≤ m → m < k + f → (∀ j, k ≤ j → j < m → ¬ nth e j < nth e (j + 1)) → firstFrom e f k = some m
  | 0, k, h1, h2, _ => absurd h1 (by omega)
  | f + 1, k, h1, h2, h => by
    unfold firstFrom
    by_cases hk : k = m
    · subst hk; rw [if_pos hm]
    · rw [if_neg (h k (Nat.le_refl _) (by omega))]
      exact firstFrom_some hm (by omega) (by omega) fun j h3 h4 => h j (by omega) h4
theorem firstFrom_is {e : List Int} : ∀ {f k m : Nat}, firstFrom e f k = some m → k ≤ m ∧ m < k + f ∧ nth e m < nth e (m + 1)
  | 0, _, _, h => by simp [firstFrom] at h
  | f + 1, k, m, h => by
    unfold firstFrom at h
    split at h
    · injection h with h; subst h; exact ⟨Nat.le_refl _, by omega, by assumption⟩
    · have := firstFrom_is h; exact ⟨by omega, by omega, this.2.2⟩
theorem firstFrom_no {e : List Int} : ∀ {f k : Nat}, firstFrom e f k = none → ∀ j, k ≤ j → j < k + f → ¬ nth e j < nth e (j + 1)
  | 0, _, _, j, h1, h2 => absurd h1 (by omega)
  | f + 1, k, h, j, h1, h2 => by
    unfold firstFrom at h
    split at h
    · cases h
    · by_cases hk : j = k
      · subst hk; assumption
      · exact firstFrom_no h j (by omega) (by omega)
theorem firstUp_none {e : List Int} (h : ∀ j, j < 6 → ¬ nth e j < nth e (j + 1)) : firstUp e = none := firstFrom_none fun j _ h2 => h j (by omega)
theorem firstUp_some {e : List Int} {m : Nat} (h6 : m < 6) (hm : nth e m < nth e (m + 1)) (h : ∀ j, j < m → ¬ nth e j < nth e (j + 1)) : firstUp e = some m := firstFrom_some hm (by omega) (by omega) fun j _ h2 => h j h2
theorem firstUp_is {e : List Int} {m : Nat} (h : firstUp e = some m) : m < 6 ∧ nth e m < nth e (m + 1) := by have := firstFrom_is h; exact ⟨by omega, this.2.2⟩
theorem firstUp_no {e : List Int} (h : firstUp e = none) : ∀ j, j < 6 → ¬ nth e j < nth e (j + 1) := fun j hj => firstFrom_no h j (by omega) (by omega)
/-- What falls with each exchange at an ascent. -/
def mu7 (e : List Int) : Int := nth e 1 + 2 * nth e 2 + 3 * nth e 3 + 4 * nth e 4 + 5 * nth e 5 + 6 * nth e 6
abbrev swU (e : List Int) (k : Nat) : List Int := swapL e k (k + 1)
theorem swU_cases {e : List Int} (h : ex7 e) {k : Nat} (hk : k < 6) : ex7 (swU e k) ∧ mu7 (swU e k) = mu7 e - (nth e (k + 1) - nth e k) ∧ 0 ≤ mu7 e ∧ mu7 e ≤ 2667 := by
  obtain ⟨a, b, c, d, f, g, i, rfl, ha, hb, hc, hd, hf, hg, hi⟩ := ex7_cases h
  refine ⟨⟨by simp [swU, swapL_len], fun j hj => ?_⟩, ?_, ?_, ?_⟩
  · rw [swapL_nth (by show k < 7; omega) (by show k + 1 < 7; omega) (by exact hj)]
    have h1 := h.2 k (by omega)
    have h2 := h.2 (k + 1) (by omega)
    have h3 := h.2 j hj
    split
    · exact h1
    · split
      · exact h2
      · exact h3
  · rcases lt6 hk with rfl | rfl | rfl | rfl | rfl | rfl <;> simp [mu7, swU, swapL, nth] <;> omega
  · simp [mu7, nth]; omega
  · simp [mu7, nth]; omega
def upF : Nat → List Int → List Nat
  | 0, _ => []
  | f + 1, e => match firstUp e with
    | none => []
    | some k => k :: upF f (swU e k)
def endF : Nat → List Int → List Int
  | 0, e => e
  | f + 1, e => match firstUp e with
    | none => e
    | some k => endF f (swU e k)
theorem up_steady : ∀ (f f' : Nat) (e : List Int), ex7 e → mu7 e < f → mu7 e < f' → upF f e = upF f' e ∧ endF f e = endF f' e
  | 0, _, e, h, h1, _ => absurd h1 (by have := (swU_cases h (k := 0) (by omega)).2.2.1; omega)
  | _, 0, e, h, _, h1 => absurd h1 (by have := (swU_cases h (k := 0) (by omega)).2.2.1; omega)
  | f + 1, f' + 1, e, h, h1, h2 => by
    unfold upF endF
    cases hu : firstUp e with
    | none => exact ⟨rfl, rfl⟩
    | some k =>
      obtain ⟨h6, hlt⟩ := firstUp_is hu
      obtain ⟨hx, hm, _⟩ := swU_cases h h6
      have := up_steady f f' (swU e k) hx (by omega) (by omega)
      simp only
      exact ⟨by rw [this.1], this.2⟩
/-- The places of the exchanges, and what there is in the end. -/
def upL (e : List Int) : List Nat := upF ((mu7 e).toNat + 1) e
def endL (e : List Int) : List Int := endF ((mu7 e).toNat + 1) e
theorem upL_none {e : List Int} (h : firstUp e = none) : upL e = [] ∧ endL e = e := by
  unfold upL endL upF endF
  rw [h]
  exact ⟨rfl, rfl⟩
theorem upL_some {e : List Int} (h : ex7 e) {k : Nat} (hu : firstUp e = some k) : upL e = k :: upL (swU e k) ∧ endL e = endL (swU e k) := by
  obtain ⟨h6, hlt⟩ := firstUp_is hu
  obtain ⟨hx, hm, h0, _⟩ := swU_cases h h6
  have h0' := (swU_cases hx (k := 0) (by omega)).2.2.1
  have := up_steady ((mu7 e).toNat) ((mu7 (swU e k)).toNat + 1) (swU e k) hx (by omega) (by omega)
  have e1 : upL e = k :: upF (mu7 e).toNat (swU e k) := by unfold upL; rw [upF, hu]
  have e2 : endL e = endF (mu7 e).toNat (swU e k) := by unfold endL; rw [endF, hu]
  rw [e1, e2, this.1, this.2]
  exact ⟨rfl, rfl⟩
/-- Induction by exchanges. -/
theorem up_ind {P : List Int → Prop} (h0 : ∀ e, ex7 e → firstUp e = none → P e) (h1 : ∀ e k, ex7 e → firstUp e = some k → k < 6 → nth e k < nth e (k + 1) → P (swU e k) → P e) : ∀ e, ex7 e → P e := by
  have main : ∀ (f : Nat) (e : List Int), ex7 e → mu7 e < f → P e := by
    intro f
    induction f with
    | zero => intro e h hm; exact absurd hm (by have := (swU_cases h (k := 0) (by omega)).2.2.1; omega)
    | succ f ih =>
      intro e h hm
      cases hu : firstUp e with
      | none => exact h0 e h hu
      | some k =>
        obtain ⟨h6, hlt⟩ := firstUp_is hu
        obtain ⟨hx, hm', _⟩ := swU_cases h h6
        exact h1 e k h hu h6 hlt (ih _ hx (by omega))
  intro e h
  exact main ((mu7 e).toNat + 1) e h (by have := (swU_cases h (k := 0) (by omega)).2.2.1; omega)
theorem upL_small {e : List Int} (h : ex7 e) : ∀ k ∈ upL e, k < 6 := by
  refine up_ind (P := fun e => ∀ k ∈ upL e, k < 6) ?_ ?_ e h
  · intro e _ hu k hk; rw [(upL_none hu).1] at hk; simp at hk
  · intro e k h hu h6 _ ih j hj
    rw [(upL_some h hu).1] at hj
    rcases List.mem_cons.1 hj with rfl | hj
    · exact h6
    · exact ih j hj
theorem upL_len {e : List Int} (h : ex7 e) : ((upL e).length : Int) ≤ mu7 e := by
  refine up_ind (P := fun e => ((upL e).length : Int) ≤ mu7 e) ?_ ?_ e h
  · intro e h hu; rw [(upL_none hu).1]; have := (swU_cases h (k := 0) (by omega)).2.2.1; simpa using this
  · intro e k h hu h6 hlt ih
    rw [(upL_some h hu).1]
    have := (swU_cases h h6).2.1
    simp only [List.length_cons]
    omega
theorem endL_ex7 {e : List Int} (h : ex7 e) : ex7 (endL e) := by
  refine up_ind (P := fun e => ex7 (endL e)) ?_ ?_ e h
  · intro e h hu; rw [(upL_none hu).2]; exact h
  · intro e k h hu _ _ ih; rw [(upL_some h hu).2]; exact ih
theorem swU_cap {e : List Int} {d : Int} (h : ex7 e) (hd : ∀ k, k < 7 → nth e k ≤ d) {k : Nat} (hk : k < 6) : ∀ j, j < 7 → nth (swU e k) j ≤ d := fun j hj => by
  rw [swapL_nth (by rw [h.1]; omega) (by rw [h.1]; omega) (by rw [h.1]; exact hj)]
  split
  · exact hd k (by omega)
  · split
    · exact hd (k + 1) (by omega)
    · exact hd j hj
theorem endL_cap {e : List Int} {d : Int} (h : ex7 e) (hd : ∀ k, k < 7 → nth e k ≤ d) : ∀ k, k < 7 → nth (endL e) k ≤ d := by
  refine up_ind (P := fun e => (∀ k, k < 7 → nth e k ≤ d) → ∀ k, k < 7 → nth (endL e) k ≤ d) ?_ ?_ e h hd
  · intro e h hu hd; rw [(upL_none hu).2]; exact hd
  · intro e k h hu h6 _ ih hd; rw [(upL_some h hu).2]; exact ih (swU_cap h hd h6)
/-- What the operators make of the monomial in the end. -/
def dscL (op : Nat → List Mn → List Mn) (e : List Int) : List Mn := (upL e).foldr op [(key7 (endL e), 1)]
theorem dsc_none (op : Nat → List Mn → List Mn) {e : List Int} (h : firstUp e = none) : dscL op e = [(key7 e, 1)] := by
  unfold dscL; rw [(upL_none h).1, (upL_none h).2]; rfl
theorem dsc_some (op : Nat → List Mn → List Mn) {e : List Int} (h : ex7 e) {k : Nat} (hu : firstUp e = some k) : dscL op e = op k (dscL op (swU e k)) := by
  unfold dscL; rw [(upL_some h hu).1, (upL_some h hu).2]; rfl
/-- The document's operators. -/
def isoD (i : Nat) (l : List Mn) : List Mn := divL i (l ++ scaleM (-1) (shiftL (i + 1) l))
theorem capK.shiftDiv {d : Int} {L : List Mn} (h : capK d L) (hd : d ≤ 126) {i j : Nat} (hi : i < 6) (hj : j = i ∨ j = i + 1) : capK d (divL i (shiftL j L)) := fun t ht => by
  obtain ⟨u, hu, v, hv, e⟩ := lin_mem ht
  obtain ⟨s, hs, q, hq, e2⟩ := lin_mem hu
  obtain ⟨x0, hx0, hc0, hk0⟩ := h s hs
  have hj7 : j < 7 := by omega
  unfold shiftF at hq
  rw [List.mem_singleton.1 hq] at e2
  have hx : ex7 (incE x0 j) := set_ex7 hx0 hj7 (by have := hx0.2 j hj7; have := hc0 j hj7; omega)
  have hk : u.1 = key7 (incE x0 j) := by
    rw [e2, hk0]; unfold incE
    rw [set_key hx0.1 hj7]; show key7 x0 + unitI j = _; rw [show nth x0 j + 1 - nth x0 j = 1 by omega, Int.one_mul]
  have hc : ∀ k, k < 7 → nth (incE x0 j) k = if k = j then nth x0 k + 1 else nth x0 k := fun k hk7 => by
    unfold incE
    rw [set_nth (by rw [hx0.1]; exact hj7) _ (by rw [hx0.1]; exact hk7)]
    split
    · rename_i h; rw [h]
    · rfl
  unfold divF at hv
  obtain ⟨y, hy, rfl⟩ := List.mem_map.1 hv
  rw [hk, divK_key hx hi] at hy
  obtain ⟨z, hz, rfl⟩ := List.mem_map.1 hy
  unfold ddE at hz
  obtain ⟨m, hm, rfl⟩ := List.mem_map.1 hz
  have hm' := List.mem_range.1 hm
  have h1 := hx.2 i (by omega)
  have h2 := hx.2 (i + 1) (by omega)
  have h3 := hc i (by omega)
  have h4 := hc (i + 1) (by omega)
  have h5 := hc0 i (by omega)
  have h6 := hc0 (i + 1) (by omega)
  refine ⟨_, putE_ex7 hx hi (by omega) (by omega), fun k hk7 => ?_, e⟩
  rw [putE_nth (by rw [hx.1]; omega) _ _ (by rw [hx.1]; exact hk7)]
  have h7 := hc k hk7
  have h8 := hc0 k hk7
  rcases hj with rfl | rfl
  · rw [if_pos rfl] at h3
    rw [if_neg (by omega)] at h4
    split
    · omega
    · split
      · omega
      · rw [if_neg (by assumption)] at h7; omega
  · rw [if_neg (by omega)] at h3
    rw [if_pos rfl] at h4
    split
    · omega
    · rw [if_neg (by assumption)] at h7
      split <;> omega
theorem capK.dem {d : Int} {L : List Mn} (h : capK d L) (hd : d ≤ 126) {i : Nat} (hi : i < 6) : capK d (demL i L) := h.shiftDiv hd hi (.inl rfl)
theorem lin_scale_cap {d : Int} {i : Nat} (_hi : i < 6) (c : Int) (L : List Mn) (h : capK d (divL i L)) : capK d (divL i (scaleM c L)) := fun t ht => by
  obtain ⟨u, hu, v, hv, e⟩ := lin_mem ht
  unfold scaleM at hu
  obtain ⟨s, hs, rfl⟩ := List.mem_map.1 hu
  have : (v.1, w64 (s.2 * v.2)) ∈ divL i L := by
    unfold divL linL
    exact List.mem_flatMap.2 ⟨s, hs, by unfold scaleM; exact List.mem_map.2 ⟨v, hv, rfl⟩⟩
  obtain ⟨x, hx, hc, hk⟩ := h _ this
  exact ⟨x, hx, hc, by rw [e]; exact hk⟩
theorem capK.isoD {d : Int} {L : List Mn} (h : capK d L) (hd : d ≤ 126) {i : Nat} (hi : i < 6) : capK d (isoD i L) := by
  unfold Proofs.Ytcoelbfcndeblaa.isoD
  rw [show divL i (L ++ scaleM (-1) (shiftL (i + 1) L)) = divL i L ++ divL i (scaleM (-1) (shiftL (i + 1) L)) from linL_app _ _ _]
  exact (h.div hi).app (lin_scale_cap hi _ _ (h.shiftDiv hd hi (.inr rfl)))
/-- What an operator must keep. -/
structure OpK (op : Nat → List Mn → List Mn) (d : Int) : Prop where
  cap : ∀ {L : List Mn} {i : Nat}, i < 6 → capK d L → capK d (op i L)
  same : ∀ {a b : List Mn} (i : Nat), sameC a b → sameC (op i a) (op i b)
theorem opK_div (d : Int) : OpK divL d := ⟨fun hi h => h.div hi, fun _ h => h.lin _⟩
theorem opK_dem {d : Int} (hd : d ≤ 126) : OpK demL d := ⟨fun hi h => h.dem hd hi, fun i h => h.dem i⟩
theorem opK_iso {d : Int} (hd : d ≤ 126) : OpK isoD d := ⟨fun hi h => h.isoD hd hi, fun _ h => (h.app ((h.lin _).scale _)).lin _⟩
theorem fold_cap {op : Nat → List Mn → List Mn} {d : Int} (h : OpK op d) : ∀ {ks : List Nat} {b : List Mn}, (∀ k ∈ ks, k < 6) → capK d b → capK d (ks.foldr op b)
  | [], _, _, hb => hb
  | k :: _, _, hk, hb => h.cap (hk k (List.mem_cons_self ..)) (fold_cap h (fun j hj => hk j (List.mem_cons_of_mem _ hj)) hb)
theorem fold_same {op op' : Nat → List Mn → List Mn} (h : ∀ (i : Nat) {a b : List Mn}, sameC a b → sameC (op i a) (op' i b)) : ∀ {ks : List Nat} {a b : List Mn}, sameC a b → sameC (ks.foldr op a) (ks.foldr op' b)
  | [], _, _, hb => hb
  | k :: _, _, _, hb => h k (fold_same h hb)
/-- How many terms there can be. -/
def val7 (e : List Int) : Int := ((((((nth e 6 * 7 + nth e 5) * 7 + nth e 4) * 7 + nth e 3) * 7 + nth e 2) * 7 + nth e 1) * 7 + nth e 0)
theorem lex_step {q q' v v' r r' : Int} (hq : q < q' ↔ v < v') (he : q = q' ↔ v = v') (hr : 0 ≤ r ∧ r ≤ 6) (hr' : 0 ≤ r' ∧ r' ≤ 6) :
    (q * 128 + r < q' * 128 + r' ↔ v * 7 + r < v' * 7 + r') ∧ (q * 128 + r = q' * 128 + r' ↔ v * 7 + r = v' * 7 + r') := by
  by_cases h1 : q < q'
  · have := hq.1 h1; constructor <;> constructor <;> intro <;> omega
  · by_cases h2 : q = q'
    · have := he.1 h2; constructor <;> constructor <;> intro <;> omega
    · have h3 : ¬ v < v' := fun h => h1 (hq.2 h)
      have h4 : ¬ v = v' := fun h => h2 (he.2 h)
      constructor <;> constructor <;> intro <;> omega
theorem val7_lt {e e' : List Int} (h : ex7 e) (h' : ex7 e') (hc : ∀ k, k < 7 → nth e k ≤ 6) (hc' : ∀ k, k < 7 → nth e' k ≤ 6) : key7 e < key7 e' ↔ val7 e < val7 e' := by
  have b : ∀ k, k < 7 → 0 ≤ nth e k ∧ nth e k ≤ 6 := fun k hk => ⟨(h.2 k hk).1, hc k hk⟩
  have b' : ∀ k, k < 7 → 0 ≤ nth e' k ∧ nth e' k ≤ 6 := fun k hk => ⟨(h'.2 k hk).1, hc' k hk⟩
  have k1 : key7 e = ((((((nth e 6 * 128 + nth e 5) * 128 + nth e 4) * 128 + nth e 3) * 128 + nth e 2) * 128 + nth e 1) * 128 + nth e 0) := by
    obtain ⟨a, b, c, d, f, g, i, rfl, _⟩ := ex7_cases h; rw [key7_lit]; rfl
  have k2 : key7 e' = ((((((nth e' 6 * 128 + nth e' 5) * 128 + nth e' 4) * 128 + nth e' 3) * 128 + nth e' 2) * 128 + nth e' 1) * 128 + nth e' 0) := by
    obtain ⟨a, b, c, d, f, g, i, rfl, _⟩ := ex7_cases h'; rw [key7_lit]; rfl
  rw [k1, k2]
  unfold val7
  have s5 := lex_step (q := nth e 6) (q' := nth e' 6) (v := nth e 6) (v' := nth e' 6) Iff.rfl Iff.rfl (b 5 (by omega)) (b' 5 (by omega))
  have s4 := lex_step s5.1 s5.2 (b 4 (by omega)) (b' 4 (by omega))
  have s3 := lex_step s4.1 s4.2 (b 3 (by omega)) (b' 3 (by omega))
  have s2 := lex_step s3.1 s3.2 (b 2 (by omega)) (b' 2 (by omega))
  have s1 := lex_step s2.1 s2.2 (b 1 (by omega)) (b' 1 (by omega))
  exact (lex_step s1.1 s1.2 (b 0 (by omega)) (b' 0 (by omega))).1
theorem val7_range {e : List Int} (h : ex7 e) (hc : ∀ k, k < 7 → nth e k ≤ 6) : 0 ≤ val7 e ∧ val7 e < 823543 := by
  have b : ∀ k, k < 7 → 0 ≤ nth e k ∧ nth e k ≤ 6 := fun k hk => ⟨(h.2 k hk).1, hc k hk⟩
  have := b 0 (by omega); have := b 1 (by omega); have := b 2 (by omega); have := b 3 (by omega); have := b 4 (by omega); have := b 5 (by omega); have := b 6 (by omega)
  unfold val7
  omega
theorem desc_len : ∀ (l : List Int) (N : Nat), l.Pairwise (fun a b => b < a) → (∀ x ∈ l, 0 ≤ x ∧ x < N) → l.length ≤ N
  | [], _, _, _ => Nat.zero_le _
  | x :: l, N, hp, hb => by
    obtain ⟨h1, h2⟩ := List.pairwise_cons.1 hp
    have hx := hb x (List.mem_cons_self ..)
    have := desc_len l x.toNat h2 (fun y hy => ⟨(hb y (List.mem_cons_of_mem _ hy)).1, by have := h1 y hy; omega⟩)
    simp only [List.length_cons]
    omega
theorem cap6_len {L : List Mn} (h : capK 6 L) (hc : canonM L) : L.length ≤ 823543 := by
  have hv : ∀ t ∈ L, ∃ v, 0 ≤ v ∧ v < 823543 ∧ ∃ e, ex7 e ∧ (∀ k, k < 7 → nth e k ≤ 6) ∧ t.1 = key7 e ∧ v = val7 e := fun t ht => by
    obtain ⟨e, he, hcap, hk⟩ := h t ht
    have := val7_range he hcap
    exact ⟨val7 e, this.1, this.2, e, he, hcap, hk, rfl⟩
  have hmain : ∀ (l : List Mn), (∀ t ∈ l, t ∈ L) → l.Pairwise (fun a b => b.1 < a.1) → ∃ vs : List Int, vs.length = l.length ∧ vs.Pairwise (fun a b => b < a) ∧ (∀ v ∈ vs, ∃ t ∈ l, ∃ e, ex7 e ∧ (∀ k, k < 7 → nth e k ≤ 6) ∧ t.1 = key7 e ∧ v = val7 e) := by
    intro l
    induction l with
    | nil => intro _ _; exact ⟨[], rfl, List.Pairwise.nil, fun v hv => by simp at hv⟩
    | cons t l ih =>
      intro hm hp
      obtain ⟨h1, h2⟩ := List.pairwise_cons.1 hp
      obtain ⟨vs, e1, e2, e3⟩ := ih (fun u hu => hm u (List.mem_cons_of_mem _ hu)) h2
      obtain ⟨v, _, _, e, he, hcap, hk, hve⟩ := hv t (hm t (List.mem_cons_self ..))
      refine ⟨v :: vs, by simp [e1], List.pairwise_cons.2 ⟨fun y hy => ?_, e2⟩, fun y hy => ?_⟩
      · obtain ⟨u, hu, e', he', hcap', hk', hve'⟩ := e3 y hy
        have := h1 u hu
        rw [hk, hk'] at this
        rw [hve, hve']
        exact (val7_lt he' he hcap' hcap).1 this
      · rcases List.mem_cons.1 hy with rfl | hy
        · exact ⟨t, List.mem_cons_self .., e, he, hcap, hk, hve⟩
        · obtain ⟨u, hu, r⟩ := e3 y hy
          exact ⟨u, List.mem_cons_of_mem _ hu, r⟩
  obtain ⟨vs, e1, e2, e3⟩ := hmain L (fun _ h => h) hc.1
  rw [← e1]
  refine desc_len vs 823543 e2 fun x hx => ?_
  obtain ⟨u, hu, e, he, hcap, hk, rfl⟩ := e3 x hx
  exact val7_range he hcap
end Go.Proofs.Ytcoelbfcndeblaa

/-
  Copying a slice of numbers into an array. Conditions: the slice is no longer than the array.
-/


namespace Go.Proofs.Ytcoelbfcndeblaa
open Go.RowKit

/-- A list with zeros behind it. -/
def padN (N : Nat) (xs : List Int) : List Int := xs ++ List.replicate (N - xs.length) 0
theorem padN_len {N : Nat} {xs : List Int} (h : xs.length ≤ N) : (padN N xs).length = N := by simp [padN]; omega
theorem padN_nth (N : Nat) (xs : List Int) (k : Nat) : nth (padN N xs) k = nth xs k := by
  unfold padN nth
  rw [List.getD_eq_getElem?_getD, List.getD_eq_getElem?_getD]
  by_cases h : k < xs.length
  · rw [List.getElem?_append_left h]
  · rw [List.getElem?_append_right (by omega), List.getElem?_eq_none (l := xs) (by omega), List.getElem?_replicate]
    split <;> rfl
theorem nth_out {xs : List Int} {k : Nat} (h : xs.length ≤ k) : nth xs k = 0 := by
  unfold nth
  rw [List.getD_eq_getElem?_getD, List.getElem?_eq_none h]; rfl
theorem Try.infoIntA : (Try.prog.info? 3).map (·.size) = some 1 := by kernel_rfl
/-- 'copy(a[:], s)' where the array a holds zeros. -/
theorem wpList_copy_arr {ops : Array Oper} {rest : List Oper} {o : Oper} {a : Act} {w : World} {Q : Exit → Act → World → Prop} (hgd : o.guard = none) (d s : Operand)
    (ho : o.op = .call { callee := .builtin .copy, args := #[d, s], argTypes := #[35, 35] }) (g N : Nat) (A : Option Addr) (n c : Nat) (hd : a.eval d = .slice (some ⟨g, 0, none⟩) N N) (hs : a.eval s = .slice A n c)
    (t : TypeId) (xs : List Int) (hblk : Blk w g t ((List.replicate N (0 : Int)).map (Value.int .i64)).toArray) (hsi : SI w A n xs) (hle : n ≤ N)
    (hK : ∀ w', Blk w' g t ((padN N xs).map (Value.int .i64)).toArray → w.grownBy w' (some g) → wpList Try.prog ops Q rest (a.put o.dst (goInt n)) w') : wpList Try.prog ops Q (o :: rest) a w := by
  have hl := hsi.1
  by_cases h0 : n = 0
  · subst h0
    obtain rfl : xs = [] := List.eq_nil_of_length_eq_zero hl
    exact Go.wpList_copy_nothing hgd d s 35 35 ho 3 Try.underlying35 Try.infoIntA (some ⟨g, 0, none⟩) A N N 0 c hd hs (by simp) (hK w (by simpa [padN] using hblk) (World.grownBy.refl _ _))
  · obtain ⟨b, off, rfl, hb, hc⟩ := hsi.2 (by omega)
    have hE : (((List.replicate N (0 : Int)).map (Value.int .i64)).toArray.toList.take 0 ++ (xs.map (Value.int .i64) ++ ((List.replicate N (0 : Int)).map (Value.int .i64)).toArray.toList.drop (0 + (xs.map (Value.int .i64)).length))).toArray = ((padN N xs).map (Value.int .i64)).toArray := by
      simp [padN, List.drop_replicate]
    refine Go.wpList_copy_own hgd d s 35 35 ho 3 Try.underlying35 Try.infoIntA g 0 N N ⟨b, off, none⟩ n c hd hs _ t hblk (xs.map (Value.int .i64)) (by simp [hl]; exact (Nat.min_eq_left hle).symm) ?_ (by simp [hl]; omega) (ints_oneCell _ _) ?_
    · intro j v hj
      have hjl : j < xs.length := by
        rcases Nat.lt_or_ge j xs.length with h | h
        · exact h
        · rw [List.getElem?_eq_none (by simpa using h)] at hj; cases hj
      rw [List.getElem?_map, nth_get? hjl] at hj
      rw [add_pt, hc j (by omega)]
      exact hj
    · rw [hE]
      have hk := hK (w.setRow g ((padN N xs).map (Value.int .i64)).toArray) (hblk.row _) (grownBy_setRow w g _)
      simpa [hl] using hk
end Go.Proofs.Ytcoelbfcndeblaa

/-
  The document's climb to the longest permutation: places of first ascents, the monomial of the stairs. Conditions: lists of one to seven numbers from 0 to 127.
-/


namespace Go.Proofs.Ytcoelbfcndeblaa
open Go.RowKit

def natL (ks : List Nat) : List Int := ks.map fun (k : Nat) => (k : Int)
theorem natL_len (ks : List Nat) : (natL ks).length = ks.length := by simp [natL]
theorem natL_app (a b : List Nat) : natL (a ++ b) = natL a ++ natL b := by simp [natL]
theorem natL_nth {ks : List Nat} {k : Nat} (h : k < ks.length) : nth (natL ks) k = ((ks[k] : Nat) : Int) := by
  rw [nth_get (by rw [natL_len]; exact h)]; simp [natL]
def lenV : Value → Nat
  | .slice _ n _ => n
  | _ => 0
/-- 'out = append(out, x)' on a slice of the call's own, and where the new one lies. -/
theorem wpList_append1_at {ops : Array Oper} {rest : List Oper} {o : Oper} {a : Act} {w : World} {Q : Exit → Act → World → Prop} (hgd : o.guard = none) (s x : Operand)
    (ho : o.op = .call { callee := .builtin .append, args := #[s, x], argTypes := #[35, 35] })
    (lo : Nat) (A : Option Addr) (n c : Nat) (xs : List Int) (v : Int) (hs : a.eval s = .slice A n c) (hx : a.eval x = .slice (some ⟨w.heap.size, 0, none⟩) 1 1)
    (hown : Own w lo w.heap.size A n c xs) (hlo : lo ≤ w.heap.size) (hn : n ≤ 1099511627776)
    (hK : ∀ A' c' w', Own w' lo w'.heap.size A' (n + 1) c' (xs ++ [v]) → w.grownBy w' (Value.slice A n c).ownBlock → Below lo w w' → (∀ g, (Value.slice A' (n + 1) c').ownBlock = some g → (Value.slice A n c).ownBlock = some g ∨ w.heap.size ≤ g) → wpList Try.prog ops Q rest (a.put o.dst (.slice A' (n + 1) c')) w') :
    wpList Try.prog ops Q (o :: rest) a (w.alloc (.cells #[.int .i64 v] 3)) := by
  obtain ⟨i0, hi, hz0, hz1, hz2⟩ := info_parts Try.infoInt
  refine Go.wpList_append_own_at _ hgd s x 35 ho lo 3 i0 (.int .i64 0) 1 8 Try.underlying35 hi hz0 hz1 hz2 rfl (by decide) _ _ _ hs (hown.1.alloc _) ⟨w.heap.size, 0, none⟩ 1 1 [.int .i64 v] hx rfl ?_ ?_ (by unfold maxLen; omega) (by omega) (by simp; omega) ?_
  · intro j u hj
    match j, hj with
    | 0, hj =>
      simp at hj
      subst hj
      rw [add_pt]
      exact (Blk.new w 3 #[.int .i64 v]).cell 0
  · intro u hu
    simp at hu
    subst hu
    rfl
  · intro v' w1 ho1 hg1 _ hat
    have e1 : List.map (Value.int .i64) xs ++ [Value.int .i64 v] = (xs ++ [v]).map (Value.int .i64) := by simp
    rw [e1] at ho1
    obtain ⟨g, cap, rfl, _, _⟩ := ho1.form (by omega)
    have hg2 : w.grownBy w1 (Value.slice A n c).ownBlock := (World.grownBy_alloc w _ _).trans hg1
    exact hK _ _ w1 (Own.of ho1) hg2 (grow_below hg2 hlo (fun k hk => (hown.1.lt k hk).1)) (fun b hb => by
      rcases hat with h | h
      · exact .inl (h ▸ hb)
      · right; rw [h] at hb; injection hb with hb; rw [← hb]; simp)

theorem pad_swap {vs : List Int} {n k : Nat} (hl : vs.length = n) (h7 : n ≤ 7) (hk : k + 1 < n) : padN 7 (swapL vs k (k + 1)) = swU (padN 7 vs) k := by
  have hp : (padN 7 vs).length = 7 := padN_len (by omega)
  apply List.ext_getElem (by rw [padN_len (by rw [swapL_len]; omega)]; simp [swU, swapL_len, hp])
  intro j h1 h2
  have hj : j < 7 := by rw [padN_len (by rw [swapL_len]; omega)] at h1; exact h1
  have e1 : nth (swU (padN 7 vs) k) j = if j = k + 1 then nth (padN 7 vs) k else if j = k then nth (padN 7 vs) (k + 1) else nth (padN 7 vs) j := swapL_nth (by rw [hp]; omega) (by rw [hp]; omega) (by rw [hp]; exact hj)
  rw [← nth_get h1, ← nth_get h2, e1, padN_nth, padN_nth, padN_nth, padN_nth]
  by_cases hjn : j < n
  · rw [swapL_nth (by omega) (by omega) (by omega)]
  · rw [nth_out (by rw [swapL_len]; omega), if_neg (by omega), if_neg (by omega), nth_out (by omega)]
/-- Where a list ends, zeros stand: there is no ascent from there on. -/
theorem pad_up {vs : List Int} {n : Nat} (hl : vs.length = n) (hx : ex7 (padN 7 vs)) {k : Nat} (hk : n ≤ k + 1) (hk6 : k < 6) : ¬ nth (padN 7 vs) k < nth (padN 7 vs) (k + 1) := by
  have := (hx.2 k (by omega)).1
  rw [padN_nth _ _ (k + 1), nth_out (xs := vs) (k := k + 1) (by omega)]
  omega
structure UpInv (xs : List Int) (n : Nat) (O : List Nat) (vs : List Int) (k : Nat) : Prop where
  len : vs.length = n
  ex : ex7 (padN 7 vs)
  ups : upL (padN 7 xs) = O ++ upL (padN 7 vs)
  fin : endL (padN 7 xs) = endL (padN 7 vs)
  no : ∀ j, j < k → ¬ nth vs j < nth vs (j + 1)
theorem UpInv.start {xs : List Int} {n : Nat} (hl : xs.length = n) (hx : ex7 (padN 7 xs)) : UpInv xs n [] xs 0 := ⟨hl, hx, rfl, rfl, fun j hj => absurd hj (by omega)⟩
theorem UpInv.step {xs : List Int} {n : Nat} {O : List Nat} {vs : List Int} {k : Nat} (h : UpInv xs n O vs k) (h7 : n ≤ 7) (hk : k + 1 < n) (hlt : nth vs k < nth vs (k + 1)) : UpInv xs n (O ++ [k]) (swapL vs k (k + 1)) 0 ∧ (O ++ [k]).length ≤ (upL (padN 7 xs)).length := by
  have hu : firstUp (padN 7 vs) = some k := firstUp_some (by omega) (by rw [padN_nth, padN_nth]; exact hlt) (fun j hj => by rw [padN_nth, padN_nth]; exact h.no j hj)
  obtain ⟨e1, e2⟩ := upL_some h.ex hu
  have hp := pad_swap h.len h7 hk
  refine ⟨⟨by rw [swapL_len]; exact h.len, by rw [hp]; exact (swU_cases h.ex (by omega)).1, ?_, ?_, fun j hj => absurd hj (by omega)⟩, ?_⟩
  · rw [h.ups, e1, hp]; simp
  · rw [h.fin, e2, hp]
  · rw [h.ups, e1]; simp
theorem UpInv.next {xs : List Int} {n : Nat} {O : List Nat} {vs : List Int} {k : Nat} (h : UpInv xs n O vs k) (hlt : ¬ nth vs k < nth vs (k + 1)) : UpInv xs n O vs (k + 1) := ⟨h.len, h.ex, h.ups, h.fin, fun j hj => by
  rcases Nat.lt_or_ge j k with h1 | h1
  · exact h.no j h1
  · obtain rfl : j = k := by omega
    exact hlt⟩
theorem UpInv.done {xs : List Int} {n : Nat} {O : List Nat} {vs : List Int} {k : Nat} (h : UpInv xs n O vs k) (hk : n ≤ k + 1) : upL (padN 7 xs) = O ∧ endL (padN 7 xs) = padN 7 vs := by
  have hu : firstUp (padN 7 vs) = none := firstUp_none fun j hj => by
    by_cases h1 : j < k
    · rw [padN_nth, padN_nth]; exact h.no j h1
    · exact pad_up h.len h.ex (by omega) hj
  obtain ⟨e1, e2⟩ := upL_none hu
  exact ⟨by rw [h.ups, e1]; simp, by rw [h.fin, e2]⟩
set_option maxRecDepth 100000 in
set_option maxHeartbeats 2000000 in
theorem l3Up_any (A : Option Addr) (n c : Nat) (xs : List Int) (w : World) (hs : SI w A n xs) (h1 : 1 ≤ n) (h7 : n ≤ 7) (hx : ex7 (padN 7 xs)) :
    Calls Try.prog 176 #[.slice A n c] w fun e w' => Fresh w w' e (natL (upL (padN 7 xs))) := by
  have HL := Lib.hid hs.1
  have HEX := Lib.hid hx
  obtain ⟨B, hB⟩ : ∃ B, B = w.heap.size := ⟨_, rfl⟩
  have HBE : Hid (B = w.heap.size) := Lib.hid hB
  obtain ⟨w0, hw0⟩ : ∃ w0, w0 = w.alloc (.cells #[] 3) := ⟨_, rfl⟩
  have HO0 : Hid (Own w0 B (B + 1) (some ⟨B, 0, none⟩) 0 0 []) := Lib.hid (by rw [hw0, hB]; exact Own.empty w)
  have HB0 : Hid (Below B w w0) := Lib.hid (by rw [hw0, hB]; exact Below.alloc_self _ _)
  have HZ0 : Hid (w0.heap.size = B + 1) := Lib.hid (by rw [hw0, hB]; simp)
  have hs0 : SI w0 A n xs := by rw [hw0]; exact hs.alloc _
  have HUL : Hid (((upL (padN 7 xs)).length : Int) ≤ 2667) := Lib.hid (by have := upL_len hx; have := (swU_cases hx (k := 0) (by omega)).2.2.2; omega)
  clear hx
  go_enter Try.func176, Try.ntmps176
  go_upto_region 2 with fail
  rw [← hw0, ← hB]
  clear hw0 hB hs
  go_wp2_with (go_at_call 166
               refine (l1Ints_any A n c xs _ hs0 (by omega)).mono ?_
               rintro e w1 ⟨A1, n1, c1, rfl, ho1, hb1⟩
               obtain rfl : n = n1 := by have := ho1.len; rw [HL.out] at this; exact this
               have HO1 := Lib.hid ho1
               have HB1 : Hid (Below B w w1) := Lib.hid (HB0.out.trans (hb1.mono (by have := HZ0.out; omega)))
               have HO0' : Hid (Own w1 B (B + 1) (some ⟨B, 0, none⟩) 0 0 []) := Lib.hid (HO0.out.below hb1 (by have := HZ0.out; omega))
               have HZ1 : Hid (B + 1 ≤ w1.heap.size) := Lib.hid (by have := hb1.size; have := HZ0.out; omega)
               clear ho1 hb1)
  clear hs0
  go_loopw [3, 4, 5] (fun ov vv kv wr => ∃ (O : List Nat) (Ao : Option Addr) (co : Nat) (vs : List Int) (Av : Option Addr) (cv lv hv k : Nat), ov = .slice Ao O.length co ∧ vv = .slice Av n cv ∧ kv = .int .i64 k ∧ k + 1 ≤ n ∧
      UpInv xs n O vs k ∧ Own wr B wr.heap.size Ao O.length co (natL O) ∧ Own wr lv hv Av n cv vs ∧ hv ≤ wr.heap.size ∧ B ≤ lv ∧ (∀ g, (Value.slice Ao O.length co).ownBlock = some g → g < lv ∨ hv ≤ g) ∧ Below B w wr ∧ O.length ≤ (upL (padN 7 xs)).length)
    (fun ov _ kv _ => ((upL (padN 7 xs)).length - lenV ov) * 8 + (7 - (intOf kv).toNat))
  case atStart =>
    refine ⟨[], some ⟨B, 0, none⟩, 0, xs, A1, c1, w0.heap.size, w1.heap.size, 0, rfl, rfl, rfl, by omega, UpInv.start HL.out HEX.out, HO0'.out.wide (Nat.le_refl _) HZ1.out, HO1.out, Nat.le_refl _, by have := HZ0.out; omega, fun g hg => ?_, HB1.out, by simp⟩
    have := (HO0'.out.lt g hg).2
    have := HZ0.out
    omega
  case round =>
    obtain ⟨O, Ao, co, vs, Av, cv, lv, hv, k, rfl, rfl, rfl, hk, hinv, hoo, hov, hhv, hlv, hap, hbw, hol⟩ := hrel
    clear HO1 HB1 HO0' HZ1
    have HI := Lib.hid hinv
    have HOO := Lib.hid hoo
    have HOV := Lib.hid hov
    have HHV := Lib.hid hhv
    have HLV := Lib.hid hlv
    have HAP := Lib.hid hap
    have HBW := Lib.hid hbw
    have HOL := Lib.hid hol
    have hwr : IntKind.i64.wrap ((k : Int) + 1) = (k : Int) + 1 := IntWalk.i64_in _ (by omega)
    obtain ⟨gv, rfl, hgv1, hgv2⟩ := hov.place (by omega)
    clear hinv hoo hhv hlv hap hbw hol
    by_cases hlt : k + 1 < n
    · have hlI : (k : Int) + 1 < (n : Int) := by omega
      have hkI : (k : Int) < (n : Int) := by omega
      have hc0 := hov.cellAt (k := k) (by omega)
      have hc1 := hov.cellAt (k := k + 1) (by omega)
      have hn1 : ((k : Int) + 1).toNat = k + 1 := by omega
      have h01 : (0 : Int) ≤ (k : Int) + 1 := by omega
      obtain ⟨x, hx⟩ : ∃ x, x = nth vs k := ⟨_, rfl⟩
      obtain ⟨y, hy⟩ : ∃ y, y = nth vs (k + 1) := ⟨_, rfl⟩
      rw [← hx] at hc0
      rw [← hy] at hc1
      have HX := Lib.hid hx
      have HY := Lib.hid hy
      have SW : Hid (∀ wx : World, Drawn wr wx → Calls Try.prog 125 #[.slice (some ⟨gv, 0, none⟩) n cv, .int .i64 k, .int .i64 ((k : Int) + 1)] wx (fun e w' => Fresh wx w' e (swapL vs k (k + 1)))) := Lib.hid (fun (wx : World) (hd : Drawn wr wx) => l1Swap_any (some ⟨gv, 0, none⟩) n cv k (k + 1) vs wx (hd.own HOV.out).si (by omega) (by omega) (by omega) (by omega))
      clear hx hy hov hgv1 hgv2
      by_cases hxy : x < y
      · have HST := Lib.hid (HI.out.step h7 hlt (by have := HX.out; have := HY.out; omega))
        go_wp2_with fail
        go_quiet (fail)
        clear hwr hn1 h01
        have hwr : IntKind.i64.wrap ((k : Int) + 1) = (k : Int) + 1 := IntWalk.i64_in _ (by omega)
        go_wp2_with fail
        refine (SW.out _ ⟨_, rfl⟩).mono ?_
        rintro e w3 ⟨A3, n3, c3, rfl, ho3, hb3⟩
        obtain rfl : n = n3 := by have := ho3.len; rw [swapL_len, HI.out.len] at this; exact this
        have hb3' : Below wr.heap.size wr w3 := (Drawn.below (w' := wr.drewN nq) ⟨_, rfl⟩ wr.heap.size).trans hb3
        have HO3 : Hid (Own w3 wr.heap.size w3.heap.size A3 n c3 (swapL vs k (k + 1))) := Lib.hid ho3
        have HB3 : Hid (Below B w w3) := Lib.hid (HBW.out.trans (hb3'.mono (Nat.le_trans HLV.out (by have := HOV.out.lt gv rfl; have := HHV.out; omega))))
        have HOO3 : Hid (Own w3 B w3.heap.size Ao O.length co (natL O)) := Lib.hid ((HOO.out.below hb3' (Nat.le_refl _)).wide (Nat.le_refl _) hb3'.size)
        have HOB3 : Hid (∀ g, (Value.slice Ao O.length co).ownBlock = some g → g < wr.heap.size) := Lib.hid (fun g hg => (HOO.out.lt g hg).2)
        have HZ3 : Hid (B ≤ wr.heap.size ∧ wr.heap.size ≤ w3.heap.size) := Lib.hid ⟨Nat.le_trans HLV.out (by have := HOV.out.lt gv rfl; have := HHV.out; omega), hb3'.size⟩
        clear ho3 hb3 hb3'
        go_wp2_with (at_builtin
                     refine wpList_append1_at rfl (.tmp 31) (.tmp 33) rfl B Ao O.length co (natL O) (k : Int) rfl rfl HOO3.out (by have := HZ3.out; omega) (by have := HUL.out; have := HOL.out; omega) ?_
                     intro A4 c4 w4 ho4 hg4 hb4 hat4
                     have HO4 := Lib.hid ho4
                     have HB4 : Hid (Below B w w4) := Lib.hid (HB3.out.trans hb4)
                     have HV4 : Hid (Own w4 wr.heap.size w3.heap.size A3 n c3 (swapL vs k (k + 1))) := Lib.hid (HO3.out.grown hg4 (fun g hg => .inl (HOB3.out g hg)))
                     have HAT4 : Hid (∀ g, (Value.slice A4 (O.length + 1) c4).ownBlock = some g → g < wr.heap.size ∨ w3.heap.size ≤ g) := Lib.hid (fun g hg => by
                       rcases hat4 g hg with h | h
                       · exact .inl (HOB3.out g h)
                       · exact .inr h)
                     have HZ4 : Hid (w3.heap.size ≤ w4.heap.size) := Lib.hid hg4.size
                     clear ho4 hg4 hb4 hat4)
        go_roundw
        case rel =>
          refine ⟨O ++ [k], A4, c4, swapL vs k (k + 1), A3, c3, wr.heap.size, w3.heap.size, 0, by simp, rfl, by go_num, by omega, HST.out.1, ?_, HV4.out, HZ4.out, HZ3.out.1, ?_, HB4.out, HST.out.2⟩
          · rw [natL_app, List.length_append]; exact HO4.out
          · rw [List.length_append]; exact HAT4.out
        case measure =>
          have := HST.out.2
          rw [List.length_append] at this
          simp only [List.length_cons, List.length_nil] at this
          simp [intOf, lenV]
          omega
      · have HNX := Lib.hid (HI.out.next (by have := HX.out; have := HY.out; omega))
        go_wp2_with fail
        go_quiet (fail)
        clear hwr hn1 h01
        have hwr : IntKind.i64.wrap ((k : Int) + 1) = (k : Int) + 1 := IntWalk.i64_in _ (by omega)
        go_wp2
        go_roundw
        case rel => exact ⟨O, Ao, co, vs, some ⟨gv, 0, none⟩, cv, lv, hv, k + 1, rfl, rfl, by go_num, by omega, HNX.out, HOO.out.drawn ⟨_, rfl⟩, HOV.out.drawn ⟨_, rfl⟩, HHV.out, HLV.out, HAP.out, HBW.out.drawnN _, HOL.out⟩
        case measure => simp [intOf, lenV]; omega
    · have hlI : ¬ (k : Int) + 1 < (n : Int) := by omega
      have HD := Lib.hid (HI.out.done (by omega))
      clear hov hgv1 hgv2
      go_wp2
      go_ret
      rw [HD.out.1]
      exact ⟨Ao, _, co, rfl, by rw [← HBE.out]; exact HOO.out, by rw [← HBE.out]; exact HBW.out⟩
/-- The stairs: the exponents of the longest permutation. -/
def stairK (n : Nat) : Nat → Int
  | 0 => 0
  | k + 1 => stairK n k + ((n : Int) - 1 - (k : Int)) * unitI k
theorem stair_all : ∀ n, n ≤ 7 → (∀ k, k ≤ n → 0 ≤ stairK n k ∧ stairK n k < 562949953421312) ∧ (∀ k, k < n → 0 ≤ ((n : Int) - 1 - (k : Int)) * unitI k ∧ ((n : Int) - 1 - (k : Int)) * unitI k < 562949953421312) ∧ stairK n n = key7 (padN 7 (downL n n)) := by
  intro n hn
  have lt8 : n = 0 ∨ n = 1 ∨ n = 2 ∨ n = 3 ∨ n = 4 ∨ n = 5 ∨ n = 6 ∨ n = 7 := by omega
  rcases lt8 with rfl | rfl | rfl | rfl | rfl | rfl | rfl | rfl <;> decide
end Go.Proofs.Ytcoelbfcndeblaa

/-
  The document's Schubert polynomials: the monomial of the stairs, then divided differences on the way back. Conditions: permutations of at most seven.
-/


namespace Go.Proofs.Ytcoelbfcndeblaa
open Go.RowKit

/-- The first n numbers are those below n, each once; behind them there are zeros. -/
structure PDl (e : List Int) (n : Nat) : Prop where
  rng : ∀ k, k < n → 0 ≤ nth e k ∧ nth e k ≤ (n : Int) - 1
  ne : ∀ j k, j < k → k < n → nth e j ≠ nth e k
  out : ∀ k, n ≤ k → k < 7 → nth e k = 0
theorem list7_ext {e f : List Int} (he : e.length = 7) (hf : f.length = 7) (h : ∀ k, k < 7 → nth e k = nth f k) : e = f := by
  apply List.ext_getElem (by omega)
  intro j h1 h2
  rw [← nth_get h1, ← nth_get h2]
  exact h j (by omega)
theorem downL_nth {n k : Nat} (h : k < n) : nth (downL n n) k = (n : Int) - 1 - (k : Int) := by
  rw [nth_get (by rw [downL_len]; exact h)]; simp [downL]
theorem PDl.end_ {n : Nat} (hn : n ≤ 7) : ∀ e, ex7 e → PDl e n → endL e = padN 7 (downL n n) := by
  refine up_ind (P := fun e => PDl e n → endL e = padN 7 (downL n n)) ?_ ?_
  · intro e he hu hp
    rw [(upL_none hu).2]
    refine list7_ext he.1 (padN_len (by rw [downL_len]; exact hn)) fun k hk => ?_
    rw [padN_nth]
    by_cases hkn : k < n
    · rw [downL_nth hkn]
      have hdown : ∀ j, j + 1 < n → nth e (j + 1) + 1 ≤ nth e j := fun j hj => by
        have h1 := firstUp_no hu j (by omega)
        have h2 := hp.ne j (j + 1) (by omega) hj
        omega
      have hup : ∀ j, j < n → nth e j ≤ (n : Int) - 1 - (j : Int) := by
        intro j
        induction j with
        | zero => intro hj; have := (hp.rng 0 hj).2; omega
        | succ j ih => intro hj; have := ih (by omega); have := hdown j hj; omega
      have hlo : ∀ d j, j + d + 1 = n → (d : Int) ≤ nth e j := by
        intro d
        induction d with
        | zero => intro j hj; have := (hp.rng j (by omega)).1; omega
        | succ d ih => intro j hj; have := ih (j + 1) (by omega); have := hdown j (by omega); omega
      have := hup k hkn
      have := hlo (n - 1 - k) k (by omega)
      omega
    · rw [nth_out (xs := downL n n) (by rw [downL_len]; omega)]
      exact hp.out k (by omega) hk
  · intro e k he hu h6 hlt ih hp
    rw [(upL_some he hu).2]
    have hkn : k + 1 < n := by
      rcases Nat.lt_or_ge (k + 1) n with h | h
      · exact h
      · have h1 := hp.out (k + 1) h (by omega)
        have h2 := (he.2 k (by omega)).1
        omega
    have hs : ∀ j, j < 7 → nth (swU e k) j = if j = k + 1 then nth e k else if j = k then nth e (k + 1) else nth e j := fun j hj => swapL_nth (by rw [he.1]; omega) (by rw [he.1]; omega) (by rw [he.1]; exact hj)
    refine ih ⟨fun j hj => ?_, fun i j hij hj => ?_, fun j hj hj7 => ?_⟩
    · rw [hs j (by omega)]
      split
      · exact hp.rng k (by omega)
      · split
        · exact hp.rng (k + 1) hkn
        · exact hp.rng j hj
    · rw [hs i (by omega), hs j (by omega)]
      have hne : ∀ a b, a < n → b < n → a ≠ b → nth e a ≠ nth e b := fun a b ha hb hab => by
        rcases Nat.lt_or_ge a b with h | h
        · exact hp.ne a b h hb
        · exact fun h' => hp.ne b a (by omega) ha h'.symm
      by_cases i1 : i = k + 1
      · rw [if_pos i1, if_neg (by omega), if_neg (by omega)]; exact hne _ _ (by omega) (by omega) (by omega)
      · rw [if_neg i1]
        by_cases i2 : i = k
        · rw [if_pos i2]
          by_cases j1 : j = k + 1
          · rw [if_pos j1]; exact hne _ _ (by omega) (by omega) (by omega)
          · rw [if_neg j1, if_neg (by omega)]; exact hne _ _ (by omega) (by omega) (by omega)
        · rw [if_neg i2]
          by_cases j1 : j = k + 1
          · rw [if_pos j1]; exact hne _ _ (by omega) (by omega) (by omega)
          · rw [if_neg j1]
            by_cases j2 : j = k
            · rw [if_pos j2]; exact hne _ _ (by omega) (by omega) (by omega)
            · rw [if_neg j2]; exact hne _ _ (by omega) (by omega) (by omega)
    · rw [hs j hj7, if_neg (by omega), if_neg (by omega)]
      exact hp.out j hj hj7
theorem perm_ne {xs : List Int} (h : isPermP xs) {j k : Nat} (hj : j < k) (hk : k < xs.length) : nth xs j ≠ nth xs k := fun e => by
  have := (h.2.2 k hk).2.2
  simp only [hasB, decide_eq_false_iff_not] at this
  apply this
  rw [← e, ← nth_take hj, nth_get (by rw [List.length_take]; omega)]
  exact List.getElem_mem _
theorem PDl.perm {xs : List Int} (h : isPermP xs) : PDl (padN 7 xs) xs.length := by
  refine ⟨fun k hk => ?_, fun j k hj hk => ?_, fun k hk _ => ?_⟩
  · rw [padN_nth]; have := h.range k hk; omega
  · rw [padN_nth, padN_nth]; exact perm_ne h hj hk
  · rw [padN_nth, nth_out hk]
theorem trimN_fix {xs : List Int} : ∀ {n k : Nat}, trimN xs n ≤ k → k < n → nth xs k = (k : Int)
  | 0, _, _, h => absurd h (by omega)
  | n + 1, k, h, hk => by
    by_cases hc : 0 < n ∧ nth xs n = (n : Int)
    · rw [trimN_hit hc.1 hc.2] at h
      by_cases hkn : k = n
      · subst hkn; exact hc.2
      · exact trimN_fix h (by omega)
    · rw [trimN_miss hc] at h; omega
theorem PDl.trim {xs : List Int} (h : isPermP xs) : PDl (padN 7 (xs.take (trimN xs xs.length))) (trimN xs xs.length) := by
  have hle := trimN_le xs xs.length
  refine ⟨fun k hk => ?_, fun j k hj hk => ?_, fun k hk _ => ?_⟩
  · rw [padN_nth, nth_take hk]
    have h1 := h.range k (by omega)
    refine ⟨h1.1, ?_⟩
    rcases Int.lt_or_le (nth xs k) (trimN xs xs.length : Int) with h2 | h2
    · omega
    · have h3 : nth xs (nth xs k).toNat = (((nth xs k).toNat : Nat) : Int) := trimN_fix (n := xs.length) (by omega) (by omega)
      have h4 := perm_ne h (j := k) (k := (nth xs k).toNat) (by omega) (by omega)
      rw [h3] at h4
      omega
  · rw [padN_nth, padN_nth, nth_take (by omega), nth_take hk]
    exact perm_ne h hj (by omega)
  · rw [padN_nth, nth_out (by rw [List.length_take]; omega)]
theorem pad_ex7 {xs : List Int} {n : Nat} (hl : xs.length = n) (h7 : n ≤ 7) (h : ∀ k, k < n → 0 ≤ nth xs k ∧ nth xs k ≤ 6) : ex7 (padN 7 xs) ∧ ∀ k, k < 7 → nth (padN 7 xs) k ≤ 6 := by
  have hk : ∀ k, k < 7 → 0 ≤ nth (padN 7 xs) k ∧ nth (padN 7 xs) k ≤ 6 := fun k hk => by
    rw [padN_nth]
    by_cases hkn : k < n
    · exact h k hkn
    · rw [nth_out (by omega)]; omega
  exact ⟨⟨padN_len (by omega), fun k hk7 => by have := hk k hk7; omega⟩, fun k hk7 => (hk k hk7).2⟩
theorem perm_pad {xs : List Int} (h : isPermP xs) : ex7 (padN 7 xs) ∧ ∀ k, k < 7 → nth (padN 7 xs) k ≤ 6 :=
  pad_ex7 rfl h.2.1 fun k hk => by have := h.range k hk; have := h.2.1; omega
theorem trim_pad {xs : List Int} (h : isPermP xs) : ex7 (padN 7 (xs.take (trimN xs xs.length))) ∧ ∀ k, k < 7 → nth (padN 7 (xs.take (trimN xs xs.length))) k ≤ 6 := by
  have hle := trimN_le xs xs.length
  refine pad_ex7 (n := trimN xs xs.length) (by rw [List.length_take]; omega) (by have := h.2.1; omega) fun k hk => ?_
  rw [nth_take hk]
  have := h.range k (by omega); have := h.2.1; omega
theorem trimN_pos {xs : List Int} : ∀ {n : Nat}, 0 < n → 0 < trimN xs n
  | 0, h => absurd h (by omega)
  | n + 1, _ => by
    by_cases hc : 0 < n ∧ nth xs n = (n : Int)
    · rw [trimN_hit hc.1 hc.2]; exact trimN_pos hc.1
    · rw [trimN_miss hc]; omega

/-- What the operators have made behind place m. -/
def FoldS (op : Nat → List Mn → List Mn) (ks : List Nat) (b : List Mn) (m : Nat) : List Mn := gatherL ((ks.drop m).foldr op b)
theorem sameC_gather (l : List Mn) : sameC (gatherL l) l := fun k => gatherL_cf k l
theorem FoldS.step {op : Nat → List Mn → List Mn} {d : Int} (h : OpK op d) {ks : List Nat} {b : List Mn} {m : Nat} (hm : m < ks.length) : gatherL (op ks[m] (FoldS op ks b (m + 1))) = FoldS op ks b m := by
  unfold FoldS
  rw [List.drop_eq_getElem_cons hm]
  exact gatherL_congr (h.same ks[m] (sameC_gather _))
theorem FoldS.facts {op : Nat → List Mn → List Mn} {d : Int} (h : OpK op d) (hd : d ≤ 6) {ks : List Nat} (hk : ∀ k ∈ ks, k < 6) {b : List Mn} (hb : capK d b) (m : Nat) : capK 6 (FoldS op ks b m) ∧ (FoldS op ks b m).length ≤ 823543 ∧ (∀ t ∈ FoldS op ks b m, in64 t.2) := by
  have h1 : capK 6 (FoldS op ks b m) := ((fold_cap h (fun k hk' => hk k (List.mem_of_mem_drop hk')) hb).gather).mono hd
  have h2 := gatherL_canon ((ks.drop m).foldr op b)
  exact ⟨h1, cap6_len h1 h2, fun t ht => (h2.2 t ht).2⟩
theorem FoldS.start {op : Nat → List Mn → List Mn} {ks : List Nat} {x : Int} : FoldS op ks [(x, 1)] ks.length = [(x, 1)] := by
  unfold FoldS
  rw [List.drop_length]
  exact gatherL_self ⟨List.pairwise_singleton .., fun t ht => by rw [List.mem_singleton.1 ht]; exact ⟨show (1 : Int) ≠ 0 by decide, show in64 1 by unfold in64; omega⟩⟩
theorem FoldS.zero {op : Nat → List Mn → List Mn} {e : List Int} : FoldS op (upL e) [(key7 (endL e), 1)] 0 = gatherL (dscL op e) := rfl

theorem OwnM.lit1 (w : World) (x z : Int) : OwnM (w.alloc (.cells #[.int .i64 x, .int .i64 z] 163)) w.heap.size (w.heap.size + 1) (some ⟨w.heap.size, 0, none⟩) 1 1 [(x, z)] :=
  ⟨rfl, World.ownsRow_lit w #[.int .i64 x, .int .i64 z] 1 (Nat.le_refl _) (by unfold maxLen; omega) rfl, fun k hk => by simp [Value.ownBlock] at hk; omega⟩
set_option maxHeartbeats 800000 in
theorem l3Stair_any (n : Nat) (w : World) (h7 : n ≤ 7) :
    Calls Try.prog 175 #[.int .i64 n] w fun e w' => FreshM w w' e [(key7 (padN 7 (downL n n)), 1)] := by
  have HS := Lib.hid (stair_all n h7)
  go_enter Try.func175, Try.ntmps175
  go_wp2
  go_loopw [3, 4] (fun kv iv wr => ∃ k : Nat, k ≤ n ∧ iv = .int .i64 k ∧ kv = .int .i64 (stairK n k) ∧ wr = w)
    (fun _ iv _ => n - (intOf iv).toNat)
  case atStart => exact ⟨0, Nat.zero_le _, rfl, rfl, rfl⟩
  case round =>
    obtain ⟨k, hk, rfl, rfl, rfl⟩ := hrel
    by_cases hlt : k < n
    · have hlI : (k : Int) < (n : Int) := by omega
      have b1 := HS.out.1 k hk
      have b2 := HS.out.1 (k + 1) hlt
      have b3 := HS.out.2.1 k hlt
      have e : stairK n (k + 1) = stairK n k + ((n : Int) - 1 - (k : Int)) * unitI k := rfl
      have hU := unitI_pos (i := k) (by omega)
      obtain ⟨U, hU0⟩ : ∃ U, U = unitI k := ⟨_, rfl⟩
      have HC := Lib.hid (fun w => l2Unit_at (j := (k : Int)) k rfl (by omega) hU0 w)
      obtain ⟨s, hs⟩ : ∃ s, s = stairK n k := ⟨_, rfl⟩
      rw [← hU0] at e b3
      rw [← hs] at e b1 ⊢
      obtain ⟨p, hp⟩ : ∃ p, p = ((n : Int) - 1 - (k : Int)) * U := ⟨_, rfl⟩
      rw [e] at b2
      have HE := Lib.hid e
      have hw1 : IntKind.i64.wrap ((n : Int) - 1) = (n : Int) - 1 := IntWalk.i64_in _ (by omega)
      have hw2 : IntKind.i64.wrap ((n : Int) - 1 - (k : Int)) = (n : Int) - 1 - (k : Int) := IntWalk.i64_in _ (by omega)
      have hw3 : IntKind.i64.wrap (((n : Int) - 1 - (k : Int)) * U) = ((n : Int) - 1 - (k : Int)) * U := IntWalk.i64_in _ (by omega)
      have hw4 : IntKind.i64.wrap (s + ((n : Int) - 1 - (k : Int)) * U) = s + ((n : Int) - 1 - (k : Int)) * U := IntWalk.i64_in _ (by omega)
      clear b1 b2 b3 hp e hU hU0 hs
      go_wp2_with (go_at_call 160; refine (HC.out _).mono ?_; rintro e w2 ⟨rfl, rfl⟩)
      go_roundw
      case rel => exact ⟨k + 1, by omega, by go_num, by rw [HE.out], by trivial⟩
      case measure => simp [intOf]; omega
    · have hkn : k = n := by omega
      subst hkn
      have HE := Lib.hid HS.out.2.2
      obtain ⟨s, hs⟩ : ∃ s, s = stairK k k := ⟨_, rfl⟩
      rw [← hs] at HE ⊢
      clear hs
      go_wp2
      go_ret
      rw [← HE.out]
      exact ⟨_, 1, 1, rfl, (OwnM.lit1 wr s 1).wide (Nat.le_refl _) (by simp), (Below.refl _ _).alloc (Nat.le_refl _) _⟩
theorem wrap64_eq {x : Int} (h : -9223372036854775808 ≤ x ∧ x ≤ 9223372036854775807) : wrap64 x = x := by unfold wrap64; omega
/-- The list of which the Schubert polynomial of a permutation is made. -/
def schE (xs : List Int) : List Int := padN 7 (xs.take (trimN xs xs.length))
theorem schE_trim {xs : List Int} (h : isPermB xs = true) : padN 7 (trimPerm xs) = schE xs := by rw [trimPerm_yes h]; rfl
set_option maxRecDepth 100000 in
set_option maxHeartbeats 2000000 in
theorem l3Schubert_any (A : Option Addr) (n c : Nat) (xs : List Int) (w : World) (hs : SI w A n xs) (hnc : n ≤ c) (hp : isPermB xs = true) :
    Calls Try.prog 117 #[.slice A n c] w fun e w' => FreshM w w' e (gatherL (dscL divL (schE xs))) := by
  have hP := isPermB_P hp
  have hl := hs.1
  have h1 : 1 ≤ n := by have := hP.1; omega
  have h7 : n ≤ 7 := by have := hP.2.1; omega
  obtain ⟨m, hm⟩ : ∃ m, m = trimN xs n := ⟨_, rfl⟩
  have hmn : m ≤ n := by have := trimN_le xs n; omega
  have hm1 : 1 ≤ m := by have := trimN_pos (xs := xs) (n := n) (by omega); omega
  have hpx := trim_pad hP
  have hpd := PDl.trim hP
  have e0 : schE xs = padN 7 (xs.take m) := by unfold schE; rw [hl, hm]
  rw [hl, ← hm] at hpx hpd
  have hend := hpd.end_ (by omega) _ hpx.1
  have HEND : Hid ((key7 (padN 7 (downL m m)), (1 : Int)) = (key7 (endL (padN 7 (xs.take m))), 1)) := Lib.hid (by rw [hend])
  have HEX := Lib.hid hpx.1
  have HCK : Hid (capK 6 [(key7 (endL (padN 7 (xs.take m))), (1 : Int))]) := Lib.hid (capK.one (endL_ex7 hpx.1) (endL_cap hpx.1 hpx.2) 1)
  have HLT : Hid ((xs.take m).length = m) := Lib.hid (by rw [List.length_take]; omega)
  have HT := Lib.hid (l1Trim_any A n c xs w hs hnc h1 (by omega))
  rw [← hm] at HT
  rw [e0]
  obtain ⟨ks, hks⟩ : ∃ ks, ks = upL (padN 7 (xs.take m)) := ⟨_, rfl⟩
  have HK6 : Hid (∀ k ∈ ks, k < 6) := Lib.hid (by rw [hks]; exact upL_small hpx.1)
  have HKL : Hid ((ks.length : Int) ≤ 2667) := Lib.hid (by rw [hks]; have := upL_len hpx.1; have := (swU_cases hpx.1 (k := 0) (by omega)).2.2.2; omega)
  have HKS := Lib.hid hks
  clear hend hpx hpd e0 hP hp hs hnc hl hm hks
  go_enter Try.func117, Try.ntmps117
  go_wp2_with (first
    | (go_at_call 173
       refine HT.out.mono ?_
       rintro e w1 ⟨A1, n1, c1, rfl, ho1, hb1⟩
       obtain rfl : m = n1 := by have := ho1.len; rw [HLT.out] at this; exact this
       have HO1 := Lib.hid ho1
       have HB1 := Lib.hid hb1
       clear ho1 hb1)
    | (go_at_call 175
       refine (l3Stair_any m _ (by omega)).mono ?_
       rintro e w2 ⟨A2, n2, c2, rfl, ho2, hb2⟩
       rw [HEND.out] at ho2
       have HO2 := Lib.hid ho2
       have HB2 : Hid (Below w.heap.size w w2) := Lib.hid (HB1.out.trans (hb2.mono HB1.out.size))
       have HO1' : Hid (Own w2 w.heap.size w1.heap.size A1 m c1 (xs.take m)) := Lib.hid (HO1.out.below hb2 (Nat.le_refl _))
       have HZ2 : Hid (w.heap.size ≤ w1.heap.size) := Lib.hid HB1.out.size
       clear ho2 hb2)
    | (go_at_call 176
       refine (l3Up_any A1 m c1 (xs.take m) _ HO1'.out.si hm1 (by omega) HEX.out).mono ?_
       rintro e w3 ⟨A3, n3, c3, rfl, ho3, hb3⟩
       rw [← HKS.out] at ho3
       obtain rfl : ks.length = n3 := by have := ho3.len; rw [natL_len] at this; exact this
       have HO3 := Lib.hid ho3
       have HB3 : Hid (Below w.heap.size w w3) := Lib.hid (HB2.out.trans (hb3.mono HB2.out.size))
       have HO2' : Hid (OwnM w3 w.heap.size w3.heap.size A2 n2 c2 [(key7 (endL (padN 7 (xs.take m))), (1 : Int))]) := Lib.hid ((HO2.out.below hb3 (Nat.le_refl _)).wide HZ2.out hb3.size)
       have HZ3 : Hid (w.heap.size ≤ w3.heap.size) := Lib.hid HB3.out.size
       clear ho3 hb3)
    | go_in)
  go_loopw [4, 6] (fun fv iv wr => ∃ (j : Nat) (Af : Option Addr) (nf cf : Nat), fv = .slice Af nf cf ∧ iv = .int .i64 ((j : Int) - 1) ∧ j ≤ ks.length ∧ OwnM wr w.heap.size wr.heap.size Af nf cf (FoldS divL ks [(key7 (endL (padN 7 (xs.take m))), (1 : Int))] j) ∧ Below w3.heap.size w3 wr)
    (fun _ iv _ => (intOf iv + 1).toNat)
  case atStart => exact ⟨ks.length, A2, n2, c2, rfl, by rw [wrap64_eq (by have := HKL.out; omega)], Nat.le_refl _, by rw [FoldS.start]; exact HO2'.out, Below.refl _ _⟩
  case round =>
    obtain ⟨j, Af, nf, cf, rfl, rfl, hj, hof, hbf⟩ := hrel
    have HOF := Lib.hid hof
    have HBF := Lib.hid hbf
    have HNL : Hid (nf ≤ 823543) := Lib.hid (by have := (FoldS.facts (opK_div 6) (Int.le_refl _) HK6.out HCK.out j).2.1; rw [hof.len] at this; exact this)
    clear hof hbf
    cases j with
    | zero =>
      go_wp2
      go_ret
      rw [HKS.out] at HOF
      exact ⟨Af, nf, cf, rfl, HOF.out, HB3.out.trans (HBF.out.mono HZ3.out)⟩
    | succ j =>
      have hjl : j < ks.length := by omega
      have hi0 : ((j + 1 : Nat) : Int) - 1 = (j : Int) := by omega
      rw [hi0]
      have HST := Lib.hid (FoldS.step (opK_div 6) (b := [(key7 (endL (padN 7 (xs.take m))), (1 : Int))]) hjl)
      have hk6 : ks[j] < 6 := HK6.out _ (List.getElem_mem hjl)
      have hsi := (HO3.out.below HBF.out (Nat.le_refl _)).si
      obtain ⟨b, o, e1, hb, hc⟩ := hsi.at_ (by omega)
      have hc1 := hc j hjl
      rw [natL_nth hjl] at hc1
      subst e1
      obtain ⟨x, hx⟩ : ∃ x, x = ks[j] := ⟨_, rfl⟩
      rw [← hx] at hc1 HST hk6
      have HFF := Lib.hid (FoldS.facts (opK_div 6) (Int.le_refl _) HK6.out HCK.out (j + 1))
      have HDV := Lib.hid (l2Divided_any Af nf cf _ x wr HOF.out.si (by have := HNL.out; omega) hk6 HFF.out.1.in49 HFF.out.2.2)
      have hjI : (j : Int) < (ks.length : Int) := by omega
      clear hsi hc hx hi0 hk6 hb
      go_wp2_with (go_at_call 89
                   refine HDV.out.mono ?_
                   rintro e w4 ⟨A4, n4, c4, rfl, ho4, hb4⟩
                   rw [HST.out] at ho4
                   have HO4 : Hid (OwnM w4 w.heap.size w4.heap.size A4 n4 c4 (FoldS divL ks [(key7 (endL (padN 7 (xs.take m))), (1 : Int))] j)) := Lib.hid (ho4.wide (Nat.le_trans HZ3.out HBF.out.size) (Nat.le_refl _))
                   have HB4 : Hid (Below w3.heap.size w3 w4) := Lib.hid (HBF.out.trans (hb4.mono HBF.out.size))
                   clear ho4 hb4)
      go_roundw
      case rel => exact ⟨j, A4, n4, c4, rfl, by rw [wrap64_eq (by have := HKL.out; omega)], by omega, HO4.out, HB4.out⟩
      case measure => simp only [intOf]; have h9 := wrap64_eq (x := (j : Int) - 1) (by have := HKL.out; omega); rw [h9]; omega
end Go.Proofs.Ytcoelbfcndeblaa

/-
  The program's descent: polynomials made by operators on the way back from a list's end. Conditions: seven numbers from 0 to 127.
-/



namespace Go.Proofs.Ytcoelbfcndeblaa
open Go.RowKit

theorem arrC_of {l : List Int} (h : l.length = 7) : (l.map (Value.int .i64)).toArray = arrC l := by
  match l, h with
  | [a, b, c, d, e, f, g], _ => rfl
set_option maxHeartbeats 800000 in
theorem withZeros_any (A : Option Addr) (n c : Nat) (xs : List Int) (w : World) (hs : SI w A n xs) (hn : n ≤ 7) :
    Calls Try.prog 179 #[.slice A n c] w fun e w' => e = .returned (arr (padN 7 xs)) ∧ Below w.heap.size w w' := by
  have HL := Lib.hid hs.1
  have HS := Lib.hid hs
  clear hs
  have hz : zeroC = ((List.replicate 7 (0 : Int)).map (Value.int .i64)).toArray := rfl
  have hz0 : Blk ((w.alloc (.cells zeroC 156)).alloc (.cells zeroC 156)) (w.heap.size + 1) 156 ((List.replicate 7 (0 : Int)).map (Value.int .i64)).toArray := by
    rw [← hz]
    have := Blk.new (w.alloc (.cells zeroC 156)) 156 zeroC
    rwa [show (w.alloc (.cells zeroC 156)).heap.size = w.heap.size + 1 from by simp] at this
  have hz1 : Blk ((w.alloc (.cells zeroC 156)).alloc (.cells zeroC 156)) w.heap.size 156 zeroC := (Blk.new w 156 zeroC).alloc _
  have hz2 : Below w.heap.size w ((w.alloc (.cells zeroC 156)).alloc (.cells zeroC 156)) := ((Below.refl _ _).alloc (Nat.le_refl _) _).alloc (by simp) _
  have hz3 : SI ((w.alloc (.cells zeroC 156)).alloc (.cells zeroC 156)) A n xs := (HS.out.alloc _).alloc _
  have HZ0 := Lib.hid hz0
  have HZ1 := Lib.hid hz1
  have HZ2 := Lib.hid hz2
  have HZ3 := Lib.hid hz3
  clear hz0 hz1 hz2 hz3 hz
  go_enter Try.func179, Try.ntmps179
  go_wp2_with (first
    | (refine wpList_copy_arr rfl (.tmp 4) (.tmp 5) rfl (w.heap.size + 1) 7 A n c rfl rfl 156 xs HZ0.out HZ3.out hn ?_
       intro w4 hb4 hg4
       rw [arrC_of (padN_len (by rw [HL.out]; exact hn))] at hb4
       have HB4 := Lib.hid hb4
       have HA4 : Hid (Blk w4 w.heap.size 156 zeroC) := Lib.hid (HZ1.out.grown hg4 (by intro e; injection e with e; omega))
       have HW4 : Hid (Below w.heap.size w w4) := Lib.hid (HZ2.out.grown hg4 HZ2.out.size (by rintro q ⟨⟩; omega))
       clear hb4 hg4)
    | (refine wpList_load_blk rfl 156 (.tmp 3) rfl (w.heap.size + 1) rfl 156 (arrC (padN 7 xs)) 7 3 HB4.out Try.undExp Try.infoExp ?_)
    | (refine wpList_store_blk rfl 156 (.tmp 2) (.tmp 7) rfl w.heap.size (arrC (padN 7 xs)) rfl rfl 156 zeroC HA4.out Try.infoExp rfl (arrC_one _) ?_; intro w5 hb5 hg5)
    | fail)
  refine bodyPost_ret (results_blk Try.results179 _ _ _ _ _ 7 3 rfl hb5 Try.undExp Try.infoExp) rfl ?_
  exact ⟨rfl, HW4.out.grown hg5 HW4.out.size (by rintro q ⟨⟩; exact Nat.le_refl _)⟩
set_option maxHeartbeats 800000 in
theorem monomialSum_any (e : List Int) (d : Int) (w : World) (he : ex7 e) (hc : ∀ k, k < 7 → nth e k ≤ d) :
    Calls Try.prog 180 #[arr e] w fun r w' => FreshS w w' r d [(key7 e, 1)] := by
  have HE := Lib.hid he
  have HC := Lib.hid hc
  clear he hc
  obtain ⟨w0, hw0⟩ : ∃ w0, w0 = w.alloc (.cells (arrC e) 156) := ⟨_, rfl⟩
  have HB0 : Hid (Below w.heap.size w w0) := Lib.hid (by rw [hw0]; exact Below.alloc_self _ _)
  have HK0 : Hid (Blk w0 w.heap.size 156 (arrC e)) := Lib.hid (by rw [hw0]; exact Blk.new _ _ _)
  have HZ0 : Hid (w0.heap.size = w.heap.size + 1) := Lib.hid (by rw [hw0]; simp)
  go_enter Try.func180, Try.ntmps180
  go_upto_region 1 with fail
  rw [← hw0]
  clear hw0
  go_wp2_with (first
    | (go_at_call 120; refine (newSum_any _).mono ?_; rintro r w1 ⟨g5, b5, rfl, hs1, hg51, hb51, hbel1⟩
       have HS1 := Lib.hid hs1
       have HB1 : Hid (Below w.heap.size w w1) := Lib.hid (HB0.out.trans (hbel1.mono HB0.out.size))
       have HK1 : Hid (Blk w1 w.heap.size 156 (arrC e)) := Lib.hid (HK0.out.below hbel1 (by have := HZ0.out; omega))
       have HG : Hid (w.heap.size ≤ g5 ∧ w.heap.size ≤ b5) := Lib.hid (by have := HZ0.out; omega)
       clear hs1 hbel1 hg51 hb51)
    | (refine wpList_load_blk rfl 156 (.tmp 1) rfl w.heap.size rfl 156 (arrC e) 7 3 HK1.out Try.undExp Try.infoExp ?_)
    | (go_at_call 153; refine (add_any g5 b5 [] e 1 _ HS1.out HE.out).mono ?_; rintro r w5 ⟨rfl, hs5, hg5⟩; have HS5 := Lib.hid hs5; have HG5 := Lib.hid hg5; clear hs5 hg5)
    | go_in)
  go_ret
  exact ⟨g5, b5, _, rfl, HS5.out, HG.out.1, HG.out.2, put_same [] e 1, (capE.nil d).put HC.out _, HB1.out.trans (grown_belowM HG5.out HB1.out.size (fun j hj => by injection hj with hj; have := HG.out.2; omega))⟩

theorem sameC.isoL {a b : List Mn} (i : Nat) (h : sameC a b) : sameC (isoL i a) (isoL i b) := (h.lin _).app (((h.lin _).lin _).scale _)

set_option maxRecDepth 100000 in
set_option maxHeartbeats 2000000 in
theorem descend_div (d0 : Int) : ∀ (f : Nat) (e : List Int) (w : World), ex7 e → (∀ k, k < 7 → nth e k ≤ d0) → mu7 e < f → d0 ≤ 126 →
    Calls Try.prog 178 #[arr e, .func (.func 180) #[] #[], .func (.func 83) #[] #[]] w fun r w' => FreshS w w' r d0 (dscL divL e) := by
  intro f
  induction f with
  | zero => intro e w h _ hm _; exact absurd hm (by have := (swU_cases h (k := 0) (by omega)).2.2.1; omega)
  | succ f ih =>
    intro e w he hcp hm hd
    have HE := Lib.hid he
    have HCP := Lib.hid hcp
    have HMU := Lib.hid hm
    have HD := Lib.hid hd
    have HIH := Lib.hid ih
    have HM0 : Hid (0 ≤ mu7 e) := Lib.hid (swU_cases he (k := 0) (by omega)).2.2.1
    clear he hcp hm ih hd
    obtain ⟨w0, hw0⟩ : ∃ w0, w0 = w.alloc (.cells (arrC e) 156) := ⟨_, rfl⟩
    obtain ⟨g, hg⟩ : ∃ g, g = w.heap.size := ⟨_, rfl⟩
    have HB0 : Hid (Below w.heap.size w w0) := Lib.hid (by rw [hw0]; exact Below.alloc_self _ _)
    have HK0 : Hid (Blk w0 g 156 (arrC e)) := Lib.hid (by rw [hw0, hg]; exact Blk.new _ _ _)
    have HG := Lib.hid hg
    go_enter Try.func178, Try.ntmps178
    go_upto_region 1 with fail
    rw [← hw0, ← hg]
    clear hw0 hg
    go_wp2_with fail
    go_loopw [8] (fun i wr => ∃ k : Nat, k ≤ 6 ∧ i = .int .i64 k ∧ Drawn w0 wr ∧ ∀ j, j < k → ¬ nth e j < nth e (j + 1))
      (fun i _ => 6 - (intOf i).toNat)
    case atStart => exact ⟨0, Nat.zero_le _, rfl, Drawn.refl _, fun j hj => absurd hj (by omega)⟩
    case round =>
      obtain ⟨k, hk, rfl, hD, hall⟩ := hrel
      have HA := Lib.hid hall
      have HDR := Lib.hid hD
      have HKR := Lib.hid (HK0.out.drawn hD)
      have hkr := HK0.out.drawn hD
      have HBR : Hid (Below w.heap.size w wr) := Lib.hid (HB0.out.trans ((hD.below _).mono HB0.out.size))
      clear hall hD
      by_cases hlt : k < 6
      · have hlI : (k : Int) < 6 := by omega
        have hc0 : wr.cell? ⟨g, k, none⟩ = some (.int .i64 (nth e k)) := (hkr.cell k).trans (arrC_get e k (by omega))
        have hc1 : wr.cell? ⟨g, k + 1, none⟩ = some (.int .i64 (nth e (k + 1))) := (hkr.cell (k + 1)).trans (arrC_get e (k + 1) (by omega))
        have hf0 := hkr.frozen k
        have hf1 := hkr.frozen (k + 1)
        have hwr : IntKind.i64.wrap ((k : Int) + 1) = (k : Int) + 1 := IntWalk.i64_in _ (by omega)
        have hn1 : ((k : Int) + 1).toNat = k + 1 := by omega
        have h01 : (0 : Int) ≤ (k : Int) + 1 := by omega
        have h17 : (k : Int) + 1 < 7 := by omega
        have hk7 : (k : Int) < 7 := by omega
        have HXS : Hid (arrC (swU e k) = ((arrC e).setIfInBounds k (.int .i64 (nth e (k + 1)))).setIfInBounds (k + 1) (.int .i64 (nth e k))) := Lib.hid (by
          rw [arrC_set e k (by omega) _ HE.out.1, arrC_set _ (k + 1) (by omega) _ (by simpa using HE.out.1)]; rfl)
        obtain ⟨x, hx⟩ : ∃ x, x = nth e k := ⟨_, rfl⟩
        obtain ⟨y, hy⟩ : ∃ y, y = nth e (k + 1) := ⟨_, rfl⟩
        rw [← hx] at hc0 HXS
        rw [← hy] at hc1 HXS
        have HX := Lib.hid hx
        have HY := Lib.hid hy
        clear hx hy hkr
        by_cases hxy : x < y
        · have HU : Hid (firstUp e = some k) := Lib.hid (firstUp_some hlt (by have := HX.out; have := HY.out; omega) HA.out)
          have hfin : ∀ (m : Nat) (wx : World), wx = ((wr.drewN m).setCell ⟨g, k, none⟩ (.int .i64 y)).setCell ⟨g, k + 1, none⟩ (.int .i64 x) → Blk wx g 156 (arrC (swU e k)) ∧ Below w.heap.size w wx := fun m wx hwx => by
            rw [hwx, HXS.out]
            exact ⟨((HKR.out.drewN m).set_ k _).set_ (k + 1) _, ((HBR.out.drawnN m).setCell (by rw [HG.out]; exact Nat.le_refl _) _).setCell (by rw [HG.out]; exact Nat.le_refl _) _⟩
          have HFIN := Lib.hid hfin
          have hsw := swU_cases HE.out hlt
          have HSE := Lib.hid hsw.1
          have HSC : Hid (∀ j, j < 7 → nth (swU e k) j ≤ d0) := Lib.hid (swU_cap HE.out HCP.out hlt)
          have HSM : Hid (mu7 (swU e k) < f ∧ mu7 (swU e k) + 1 ≤ mu7 e ∧ 0 ≤ mu7 (swU e k)) := Lib.hid (by
            have := HMU.out; have := HX.out; have := HY.out; have := hsw.2.1
            have := (swU_cases hsw.1 (k := 0) (by omega)).2.2.1
            omega)
          clear hfin hsw
          go_wp2_with fail
          go_quiet (fail)
          clear hwr
          have hwr : IntKind.i64.wrap ((k : Int) + 1) = (k : Int) + 1 := IntWalk.i64_in _ (by omega)
          go_wp2_with fail
          go_region
          obtain ⟨wx, hwx⟩ : ∃ wx, wx = ((wr.drewN (nq + 1)).setCell ⟨g, k, none⟩ (.int .i64 y)).setCell ⟨g, k + 1, none⟩ (.int .i64 x) := ⟨_, rfl⟩
          have HW := Lib.hid (HFIN.out _ wx hwx)
          rw [← hwx]
          clear hwx hc0 hc1 hf0 hf1
          go_wp2_with (first
            | (refine wpList_load_blk rfl 156 (.tmp 3) rfl g rfl 156 (arrC (swU e k)) 7 3 HW.out.1 Try.undExp Try.infoExp ?_)
            | (go_at_call 178; refine (HIH.out (swU e k) _ HSE.out HSC.out HSM.out.1 HD.out).mono ?_; rintro r w4 ⟨g4, b4, M4, rfl, hs4, hg4, hb4, hm4, hc4, hl4⟩
               have HS4 := Lib.hid hs4; have HM4 := Lib.hid hm4; have HC4 := Lib.hid hc4
               have HB4 : Hid (Below w.heap.size w w4) := Lib.hid (HW.out.2.trans (hl4.mono HW.out.2.size))
               clear hs4 hg4 hb4 hm4 hc4 hl4)
            | (go_at_call 83; refine (divided_any g4 b4 M4 k d0 _ HS4.out HC4.out hlt).mono ?_; rintro r w5 ⟨g5, b5, M5, rfl, hs5, hg5, hb5, hm5, hc5, hl5⟩
               have HS5 := Lib.hid hs5; have HM5 := Lib.hid hm5; have HC5 := Lib.hid hc5
               have HG5 : Hid (w.heap.size ≤ g5 ∧ w.heap.size ≤ b5) := Lib.hid ⟨Nat.le_trans HB4.out.size hg5, Nat.le_trans HB4.out.size hb5⟩
               have HB5 : Hid (Below w.heap.size w w5) := Lib.hid (HB4.out.trans (hl5.mono HB4.out.size))
               clear hs5 hg5 hb5 hm5 hc5 hl5)
            | go_in)
          go_ret
          refine ⟨g5, b5, M5, rfl, HS5.out, HG5.out.1, HG5.out.2, ?_, HC5.out, HB5.out⟩
          rw [dsc_some divL HE.out HU.out]
          exact HM5.out.trans (HM4.out.lin _)
        · have HN : Hid (¬ nth e k < nth e (k + 1)) := Lib.hid (by have := HX.out; have := HY.out; omega)
          go_wp2_with fail
          go_quiet (fail)
          clear hwr
          go_wp2_with fail
          go_roundw
          case rel => exact ⟨k + 1, by omega, by go_num, HDR.out.drewN _, fun j hj => by
            rcases Nat.lt_or_ge j k with h | h
            · have := HA.out j h; omega
            · obtain rfl : j = k := by omega
              have := HN.out; omega⟩
          case measure => simp [intOf]; omega
      · have hk6 : k = 6 := by omega
        subst hk6
        have HU : Hid (firstUp e = none) := Lib.hid (firstUp_none HA.out)
        clear hkr
        go_wp2_with (first
          | (refine wpList_load_blk rfl 156 (.tmp 3) rfl g rfl 156 (arrC e) 7 3 HKR.out Try.undExp Try.infoExp ?_)
          | (go_at_call 180; refine (monomialSum_any e d0 _ HE.out HCP.out).mono ?_; rintro r w4 ⟨g4, b4, M4, rfl, hs4, hg4, hb4, hm4, hc4, hl4⟩
             have HS4 := Lib.hid hs4; have HM4 := Lib.hid hm4; have HC4 := Lib.hid hc4
             have HG4 : Hid (w.heap.size ≤ g4 ∧ w.heap.size ≤ b4) := Lib.hid ⟨Nat.le_trans HBR.out.size hg4, Nat.le_trans HBR.out.size hb4⟩
             have HB4 : Hid (Below w.heap.size w w4) := Lib.hid (HBR.out.trans (hl4.mono HBR.out.size))
             clear hs4 hg4 hb4 hm4 hc4 hl4)
          | go_in)
        go_ret
        refine ⟨g4, b4, M4, rfl, HS4.out, HG4.out.1, HG4.out.2, ?_, HC4.out, HB4.out⟩
        rw [dsc_none divL HU.out]
        exact HM4.out

set_option maxRecDepth 100000 in
set_option maxHeartbeats 2000000 in
theorem descend_dem (d0 : Int) : ∀ (f : Nat) (e : List Int) (w : World), ex7 e → (∀ k, k < 7 → nth e k ≤ d0) → mu7 e < f → d0 + mu7 e ≤ 126 →
    Calls Try.prog 178 #[arr e, .func (.func 180) #[] #[], .func (.func 95) #[] #[]] w fun r w' => FreshS w w' r (d0 + mu7 e) (dscL demL e) := by
  intro f
  induction f with
  | zero => intro e w h _ hm _; exact absurd hm (by have := (swU_cases h (k := 0) (by omega)).2.2.1; omega)
  | succ f ih =>
    intro e w he hcp hm hd
    have HE := Lib.hid he
    have HCP := Lib.hid hcp
    have HMU := Lib.hid hm
    have HD := Lib.hid hd
    have HIH := Lib.hid ih
    have HM0 : Hid (0 ≤ mu7 e) := Lib.hid (swU_cases he (k := 0) (by omega)).2.2.1
    clear he hcp hm ih hd
    obtain ⟨w0, hw0⟩ : ∃ w0, w0 = w.alloc (.cells (arrC e) 156) := ⟨_, rfl⟩
    obtain ⟨g, hg⟩ : ∃ g, g = w.heap.size := ⟨_, rfl⟩
    have HB0 : Hid (Below w.heap.size w w0) := Lib.hid (by rw [hw0]; exact Below.alloc_self _ _)
    have HK0 : Hid (Blk w0 g 156 (arrC e)) := Lib.hid (by rw [hw0, hg]; exact Blk.new _ _ _)
    have HG := Lib.hid hg
    go_enter Try.func178, Try.ntmps178
    go_upto_region 1 with fail
    rw [← hw0, ← hg]
    clear hw0 hg
    go_wp2_with fail
    go_loopw [8] (fun i wr => ∃ k : Nat, k ≤ 6 ∧ i = .int .i64 k ∧ Drawn w0 wr ∧ ∀ j, j < k → ¬ nth e j < nth e (j + 1))
      (fun i _ => 6 - (intOf i).toNat)
    case atStart => exact ⟨0, Nat.zero_le _, rfl, Drawn.refl _, fun j hj => absurd hj (by omega)⟩
    case round =>
      obtain ⟨k, hk, rfl, hD, hall⟩ := hrel
      have HA := Lib.hid hall
      have HDR := Lib.hid hD
      have HKR := Lib.hid (HK0.out.drawn hD)
      have hkr := HK0.out.drawn hD
      have HBR : Hid (Below w.heap.size w wr) := Lib.hid (HB0.out.trans ((hD.below _).mono HB0.out.size))
      clear hall hD
      by_cases hlt : k < 6
      · have hlI : (k : Int) < 6 := by omega
        have hc0 : wr.cell? ⟨g, k, none⟩ = some (.int .i64 (nth e k)) := (hkr.cell k).trans (arrC_get e k (by omega))
        have hc1 : wr.cell? ⟨g, k + 1, none⟩ = some (.int .i64 (nth e (k + 1))) := (hkr.cell (k + 1)).trans (arrC_get e (k + 1) (by omega))
        have hf0 := hkr.frozen k
        have hf1 := hkr.frozen (k + 1)
        have hwr : IntKind.i64.wrap ((k : Int) + 1) = (k : Int) + 1 := IntWalk.i64_in _ (by omega)
        have hn1 : ((k : Int) + 1).toNat = k + 1 := by omega
        have h01 : (0 : Int) ≤ (k : Int) + 1 := by omega
        have h17 : (k : Int) + 1 < 7 := by omega
        have hk7 : (k : Int) < 7 := by omega
        have HXS : Hid (arrC (swU e k) = ((arrC e).setIfInBounds k (.int .i64 (nth e (k + 1)))).setIfInBounds (k + 1) (.int .i64 (nth e k))) := Lib.hid (by
          rw [arrC_set e k (by omega) _ HE.out.1, arrC_set _ (k + 1) (by omega) _ (by simpa using HE.out.1)]; rfl)
        obtain ⟨x, hx⟩ : ∃ x, x = nth e k := ⟨_, rfl⟩
        obtain ⟨y, hy⟩ : ∃ y, y = nth e (k + 1) := ⟨_, rfl⟩
        rw [← hx] at hc0 HXS
        rw [← hy] at hc1 HXS
        have HX := Lib.hid hx
        have HY := Lib.hid hy
        clear hx hy hkr
        by_cases hxy : x < y
        · have HU : Hid (firstUp e = some k) := Lib.hid (firstUp_some hlt (by have := HX.out; have := HY.out; omega) HA.out)
          have hfin : ∀ (m : Nat) (wx : World), wx = ((wr.drewN m).setCell ⟨g, k, none⟩ (.int .i64 y)).setCell ⟨g, k + 1, none⟩ (.int .i64 x) → Blk wx g 156 (arrC (swU e k)) ∧ Below w.heap.size w wx := fun m wx hwx => by
            rw [hwx, HXS.out]
            exact ⟨((HKR.out.drewN m).set_ k _).set_ (k + 1) _, ((HBR.out.drawnN m).setCell (by rw [HG.out]; exact Nat.le_refl _) _).setCell (by rw [HG.out]; exact Nat.le_refl _) _⟩
          have HFIN := Lib.hid hfin
          have hsw := swU_cases HE.out hlt
          have HSE := Lib.hid hsw.1
          have HSC : Hid (∀ j, j < 7 → nth (swU e k) j ≤ d0) := Lib.hid (swU_cap HE.out HCP.out hlt)
          have HSM : Hid (mu7 (swU e k) < f ∧ mu7 (swU e k) + 1 ≤ mu7 e ∧ 0 ≤ mu7 (swU e k)) := Lib.hid (by
            have := HMU.out; have := HX.out; have := HY.out; have := hsw.2.1
            have := (swU_cases hsw.1 (k := 0) (by omega)).2.2.1
            omega)
          clear hfin hsw
          go_wp2_with fail
          go_quiet (fail)
          clear hwr
          have hwr : IntKind.i64.wrap ((k : Int) + 1) = (k : Int) + 1 := IntWalk.i64_in _ (by omega)
          go_wp2_with fail
          go_region
          obtain ⟨wx, hwx⟩ : ∃ wx, wx = ((wr.drewN (nq + 1)).setCell ⟨g, k, none⟩ (.int .i64 y)).setCell ⟨g, k + 1, none⟩ (.int .i64 x) := ⟨_, rfl⟩
          have HW := Lib.hid (HFIN.out _ wx hwx)
          rw [← hwx]
          clear hwx hc0 hc1 hf0 hf1
          go_wp2_with (first
            | (refine wpList_load_blk rfl 156 (.tmp 3) rfl g rfl 156 (arrC (swU e k)) 7 3 HW.out.1 Try.undExp Try.infoExp ?_)
            | (go_at_call 178; refine (HIH.out (swU e k) _ HSE.out HSC.out HSM.out.1 (by have := HD.out; have := HSM.out; omega)).mono ?_; rintro r w4 ⟨g4, b4, M4, rfl, hs4, hg4, hb4, hm4, hc4, hl4⟩
               have HS4 := Lib.hid hs4; have HM4 := Lib.hid hm4; have HC4 := Lib.hid hc4
               have HB4 : Hid (Below w.heap.size w w4) := Lib.hid (HW.out.2.trans (hl4.mono HW.out.2.size))
               clear hs4 hg4 hb4 hm4 hc4 hl4)
            | (go_at_call 95; refine (demazure_any g4 b4 M4 k (d0 + mu7 (swU e k)) _ HS4.out HC4.out (by have := HD.out; have := HSM.out; omega) hlt).mono ?_; rintro r w5 ⟨g5, b5, M5, rfl, hs5, hg5, hb5, hm5, hc5, hl5⟩
               have HS5 := Lib.hid hs5; have HM5 := Lib.hid hm5; have HC5 := Lib.hid hc5
               have HG5 : Hid (w.heap.size ≤ g5 ∧ w.heap.size ≤ b5) := Lib.hid ⟨Nat.le_trans HB4.out.size hg5, Nat.le_trans HB4.out.size hb5⟩
               have HB5 : Hid (Below w.heap.size w w5) := Lib.hid (HB4.out.trans (hl5.mono HB4.out.size))
               clear hs5 hg5 hb5 hm5 hc5 hl5)
            | go_in)
          go_ret
          refine ⟨g5, b5, M5, rfl, HS5.out, HG5.out.1, HG5.out.2, ?_, HC5.out.mono (by have := HSM.out; omega), HB5.out⟩
          rw [dsc_some demL HE.out HU.out]
          exact HM5.out.trans (HM4.out.dem k)
        · have HN : Hid (¬ nth e k < nth e (k + 1)) := Lib.hid (by have := HX.out; have := HY.out; omega)
          go_wp2_with fail
          go_quiet (fail)
          clear hwr
          go_wp2_with fail
          go_roundw
          case rel => exact ⟨k + 1, by omega, by go_num, HDR.out.drewN _, fun j hj => by
            rcases Nat.lt_or_ge j k with h | h
            · have := HA.out j h; omega
            · obtain rfl : j = k := by omega
              have := HN.out; omega⟩
          case measure => simp [intOf]; omega
      · have hk6 : k = 6 := by omega
        subst hk6
        have HU : Hid (firstUp e = none) := Lib.hid (firstUp_none HA.out)
        clear hkr
        go_wp2_with (first
          | (refine wpList_load_blk rfl 156 (.tmp 3) rfl g rfl 156 (arrC e) 7 3 HKR.out Try.undExp Try.infoExp ?_)
          | (go_at_call 180; refine (monomialSum_any e d0 _ HE.out HCP.out).mono ?_; rintro r w4 ⟨g4, b4, M4, rfl, hs4, hg4, hb4, hm4, hc4, hl4⟩
             have HS4 := Lib.hid hs4; have HM4 := Lib.hid hm4; have HC4 := Lib.hid hc4
             have HG4 : Hid (w.heap.size ≤ g4 ∧ w.heap.size ≤ b4) := Lib.hid ⟨Nat.le_trans HBR.out.size hg4, Nat.le_trans HBR.out.size hb4⟩
             have HB4 : Hid (Below w.heap.size w w4) := Lib.hid (HBR.out.trans (hl4.mono HBR.out.size))
             clear hs4 hg4 hb4 hm4 hc4 hl4)
          | go_in)
        go_ret
        refine ⟨g4, b4, M4, rfl, HS4.out, HG4.out.1, HG4.out.2, ?_, HC4.out.mono (by have := HM0.out; omega), HB4.out⟩
        rw [dsc_none demL HU.out]
        exact HM4.out

set_option maxRecDepth 100000 in
set_option maxHeartbeats 2000000 in
theorem descend_iso (d0 : Int) : ∀ (f : Nat) (e : List Int) (w : World), ex7 e → (∀ k, k < 7 → nth e k ≤ d0) → mu7 e < f → d0 + mu7 e ≤ 126 →
    Calls Try.prog 178 #[arr e, .func (.func 180) #[] #[], .func (.func 165) #[] #[]] w fun r w' => FreshS w w' r (d0 + mu7 e) (dscL isoL e) := by
  intro f
  induction f with
  | zero => intro e w h _ hm _; exact absurd hm (by have := (swU_cases h (k := 0) (by omega)).2.2.1; omega)
  | succ f ih =>
    intro e w he hcp hm hd
    have HE := Lib.hid he
    have HCP := Lib.hid hcp
    have HMU := Lib.hid hm
    have HD := Lib.hid hd
    have HIH := Lib.hid ih
    have HM0 : Hid (0 ≤ mu7 e) := Lib.hid (swU_cases he (k := 0) (by omega)).2.2.1
    clear he hcp hm ih hd
    obtain ⟨w0, hw0⟩ : ∃ w0, w0 = w.alloc (.cells (arrC e) 156) := ⟨_, rfl⟩
    obtain ⟨g, hg⟩ : ∃ g, g = w.heap.size := ⟨_, rfl⟩
    have HB0 : Hid (Below w.heap.size w w0) := Lib.hid (by rw [hw0]; exact Below.alloc_self _ _)
    have HK0 : Hid (Blk w0 g 156 (arrC e)) := Lib.hid (by rw [hw0, hg]; exact Blk.new _ _ _)
    have HG := Lib.hid hg
    go_enter Try.func178, Try.ntmps178
    go_upto_region 1 with fail
    rw [← hw0, ← hg]
    clear hw0 hg
    go_wp2_with fail
    go_loopw [8] (fun i wr => ∃ k : Nat, k ≤ 6 ∧ i = .int .i64 k ∧ Drawn w0 wr ∧ ∀ j, j < k → ¬ nth e j < nth e (j + 1))
      (fun i _ => 6 - (intOf i).toNat)
    case atStart => exact ⟨0, Nat.zero_le _, rfl, Drawn.refl _, fun j hj => absurd hj (by omega)⟩
    case round =>
      obtain ⟨k, hk, rfl, hD, hall⟩ := hrel
      have HA := Lib.hid hall
      have HDR := Lib.hid hD
      have HKR := Lib.hid (HK0.out.drawn hD)
      have hkr := HK0.out.drawn hD
      have HBR : Hid (Below w.heap.size w wr) := Lib.hid (HB0.out.trans ((hD.below _).mono HB0.out.size))
      clear hall hD
      by_cases hlt : k < 6
      · have hlI : (k : Int) < 6 := by omega
        have hc0 : wr.cell? ⟨g, k, none⟩ = some (.int .i64 (nth e k)) := (hkr.cell k).trans (arrC_get e k (by omega))
        have hc1 : wr.cell? ⟨g, k + 1, none⟩ = some (.int .i64 (nth e (k + 1))) := (hkr.cell (k + 1)).trans (arrC_get e (k + 1) (by omega))
        have hf0 := hkr.frozen k
        have hf1 := hkr.frozen (k + 1)
        have hwr : IntKind.i64.wrap ((k : Int) + 1) = (k : Int) + 1 := IntWalk.i64_in _ (by omega)
        have hn1 : ((k : Int) + 1).toNat = k + 1 := by omega
        have h01 : (0 : Int) ≤ (k : Int) + 1 := by omega
        have h17 : (k : Int) + 1 < 7 := by omega
        have hk7 : (k : Int) < 7 := by omega
        have HXS : Hid (arrC (swU e k) = ((arrC e).setIfInBounds k (.int .i64 (nth e (k + 1)))).setIfInBounds (k + 1) (.int .i64 (nth e k))) := Lib.hid (by
          rw [arrC_set e k (by omega) _ HE.out.1, arrC_set _ (k + 1) (by omega) _ (by simpa using HE.out.1)]; rfl)
        obtain ⟨x, hx⟩ : ∃ x, x = nth e k := ⟨_, rfl⟩
        obtain ⟨y, hy⟩ : ∃ y, y = nth e (k + 1) := ⟨_, rfl⟩
        rw [← hx] at hc0 HXS
        rw [← hy] at hc1 HXS
        have HX := Lib.hid hx
        have HY := Lib.hid hy
        clear hx hy hkr
        by_cases hxy : x < y
        · have HU : Hid (firstUp e = some k) := Lib.hid (firstUp_some hlt (by have := HX.out; have := HY.out; omega) HA.out)
          have hfin : ∀ (m : Nat) (wx : World), wx = ((wr.drewN m).setCell ⟨g, k, none⟩ (.int .i64 y)).setCell ⟨g, k + 1, none⟩ (.int .i64 x) → Blk wx g 156 (arrC (swU e k)) ∧ Below w.heap.size w wx := fun m wx hwx => by
            rw [hwx, HXS.out]
            exact ⟨((HKR.out.drewN m).set_ k _).set_ (k + 1) _, ((HBR.out.drawnN m).setCell (by rw [HG.out]; exact Nat.le_refl _) _).setCell (by rw [HG.out]; exact Nat.le_refl _) _⟩
          have HFIN := Lib.hid hfin
          have hsw := swU_cases HE.out hlt
          have HSE := Lib.hid hsw.1
          have HSC : Hid (∀ j, j < 7 → nth (swU e k) j ≤ d0) := Lib.hid (swU_cap HE.out HCP.out hlt)
          have HSM : Hid (mu7 (swU e k) < f ∧ mu7 (swU e k) + 1 ≤ mu7 e ∧ 0 ≤ mu7 (swU e k)) := Lib.hid (by
            have := HMU.out; have := HX.out; have := HY.out; have := hsw.2.1
            have := (swU_cases hsw.1 (k := 0) (by omega)).2.2.1
            omega)
          clear hfin hsw
          go_wp2_with fail
          go_quiet (fail)
          clear hwr
          have hwr : IntKind.i64.wrap ((k : Int) + 1) = (k : Int) + 1 := IntWalk.i64_in _ (by omega)
          go_wp2_with fail
          go_region
          obtain ⟨wx, hwx⟩ : ∃ wx, wx = ((wr.drewN (nq + 1)).setCell ⟨g, k, none⟩ (.int .i64 y)).setCell ⟨g, k + 1, none⟩ (.int .i64 x) := ⟨_, rfl⟩
          have HW := Lib.hid (HFIN.out _ wx hwx)
          rw [← hwx]
          clear hwx hc0 hc1 hf0 hf1
          go_wp2_with (first
            | (refine wpList_load_blk rfl 156 (.tmp 3) rfl g rfl 156 (arrC (swU e k)) 7 3 HW.out.1 Try.undExp Try.infoExp ?_)
            | (go_at_call 178; refine (HIH.out (swU e k) _ HSE.out HSC.out HSM.out.1 (by have := HD.out; have := HSM.out; omega)).mono ?_; rintro r w4 ⟨g4, b4, M4, rfl, hs4, hg4, hb4, hm4, hc4, hl4⟩
               have HS4 := Lib.hid hs4; have HM4 := Lib.hid hm4; have HC4 := Lib.hid hc4
               have HB4 : Hid (Below w.heap.size w w4) := Lib.hid (HW.out.2.trans (hl4.mono HW.out.2.size))
               clear hs4 hg4 hb4 hm4 hc4 hl4)
            | (go_at_call 165; refine (isobaric_any g4 b4 M4 k (d0 + mu7 (swU e k)) _ HS4.out HC4.out (by have := HD.out; have := HSM.out; omega) hlt).mono ?_; rintro r w5 ⟨g5, b5, M5, rfl, hs5, hg5, hb5, hm5, hc5, hl5⟩
               have HS5 := Lib.hid hs5; have HM5 := Lib.hid hm5; have HC5 := Lib.hid hc5
               have HG5 : Hid (w.heap.size ≤ g5 ∧ w.heap.size ≤ b5) := Lib.hid ⟨Nat.le_trans HB4.out.size hg5, Nat.le_trans HB4.out.size hb5⟩
               have HB5 : Hid (Below w.heap.size w w5) := Lib.hid (HB4.out.trans (hl5.mono HB4.out.size))
               clear hs5 hg5 hb5 hm5 hc5 hl5)
            | go_in)
          go_ret
          refine ⟨g5, b5, M5, rfl, HS5.out, HG5.out.1, HG5.out.2, ?_, HC5.out.mono (by have := HSM.out; omega), HB5.out⟩
          rw [dsc_some isoL HE.out HU.out]
          exact HM5.out.trans (sameC.isoL k HM4.out)
        · have HN : Hid (¬ nth e k < nth e (k + 1)) := Lib.hid (by have := HX.out; have := HY.out; omega)
          go_wp2_with fail
          go_quiet (fail)
          clear hwr
          go_wp2_with fail
          go_roundw
          case rel => exact ⟨k + 1, by omega, by go_num, HDR.out.drewN _, fun j hj => by
            rcases Nat.lt_or_ge j k with h | h
            · have := HA.out j h; omega
            · obtain rfl : j = k := by omega
              have := HN.out; omega⟩
          case measure => simp [intOf]; omega
      · have hk6 : k = 6 := by omega
        subst hk6
        have HU : Hid (firstUp e = none) := Lib.hid (firstUp_none HA.out)
        clear hkr
        go_wp2_with (first
          | (refine wpList_load_blk rfl 156 (.tmp 3) rfl g rfl 156 (arrC e) 7 3 HKR.out Try.undExp Try.infoExp ?_)
          | (go_at_call 180; refine (monomialSum_any e d0 _ HE.out HCP.out).mono ?_; rintro r w4 ⟨g4, b4, M4, rfl, hs4, hg4, hb4, hm4, hc4, hl4⟩
             have HS4 := Lib.hid hs4; have HM4 := Lib.hid hm4; have HC4 := Lib.hid hc4
             have HG4 : Hid (w.heap.size ≤ g4 ∧ w.heap.size ≤ b4) := Lib.hid ⟨Nat.le_trans HBR.out.size hg4, Nat.le_trans HBR.out.size hb4⟩
             have HB4 : Hid (Below w.heap.size w w4) := Lib.hid (HBR.out.trans (hl4.mono HBR.out.size))
             clear hs4 hg4 hb4 hm4 hc4 hl4)
          | go_in)
        go_ret
        refine ⟨g4, b4, M4, rfl, HS4.out, HG4.out.1, HG4.out.2, ?_, HC4.out.mono (by have := HM0.out; omega), HB4.out⟩
        rw [dsc_none isoL HU.out]
        exact HM4.out
end Go.Proofs.Ytcoelbfcndeblaa

/-
  Contracts of the program's EmbedPerm, TrimPerm, RankAt. Conditions: lengths below 2^40.
-/


namespace Go.Proofs.Ytcoelbfcndeblaa
open Go.RowKit

set_option maxHeartbeats 1000000 in
theorem implEmbed_any (A : Option Addr) (n c : Nat) (xs : List Int) (a : Int) (w : World) (hs : SI w A n xs) (hn : n ≤ 1099511627776) :
    Calls Try.prog 43 #[.slice A n c, .int .i64 a] w fun e w' => Fresh w w' e (embPerm xs a) := by
  have hl := hs.1
  cases hu : isPermB xs with
  | false =>
    have HE := Lib.hid (embPerm_no (a := a) (.inl hu))
    have HU := Lib.hid hu
    clear hu
    go_enter Try.func43, Try.ntmps43
    go_wp2_with fail
    refine (arrayOf_x c HU.out hs hn).mono ?_
    rintro e w1 ⟨l, rfl, -, hb1⟩
    go_wp2
    go_ret
    rw [HE.out]
    exact Fresh.nil_ret (hb1.alloc hb1.size _)
  | true =>
    have HU := Lib.hid hu
    have HL := Lib.hid hl
    clear hu hl
    by_cases hlo : a < (n : Int)
    · have HE := Lib.hid (embPerm_no (xs := xs) (a := a) (.inr (by have := HL.out; omega)))
      go_enter Try.func43, Try.ntmps43
      go_wp2_with fail
      refine (arrayOf_x c HU.out hs hn).mono ?_
      rintro e w1 ⟨l, rfl, -, hb1⟩
      go_wp2
      go_ret
      rw [HE.out]
      exact Fresh.nil_ret (hb1.alloc hb1.size _)
    · by_cases hhi : 7 < a
      · have HE := Lib.hid (embPerm_no (xs := xs) (a := a) (.inr (.inr hhi)))
        go_enter Try.func43, Try.ntmps43
        go_wp2_with fail
        refine (arrayOf_x c HU.out hs hn).mono ?_
        rintro e w1 ⟨l, rfl, -, hb1⟩
        go_wp2
        go_ret
        rw [HE.out]
        exact Fresh.nil_ret (hb1.alloc hb1.size _)
      · obtain ⟨m, rfl⟩ : ∃ m : Nat, a = (m : Int) := ⟨a.toNat, by omega⟩
        have HE := Lib.hid (embPerm_yes (m := m) HU.out (by have := HL.out; omega) (by omega))
        go_enter Try.func43, Try.ntmps43
        go_wp2_with fail
        refine (arrayOf_x c HU.out hs hn).mono ?_
        rintro e w1 ⟨l, rfl, hlf, hb1⟩
        have HF := Lib.hid (hlf rfl)
        clear hlf
        have hK := Blk.new w1 105 (arrC l)
        go_wp2_with (refine wpList_load_blk rfl 105 (.tmp 5) rfl w1.heap.size rfl 105 (arrC l) 7 3 hK Try.undArr Try.infoArr ?_)
        have hb2 : Below w.heap.size w (w1.alloc (.cells (arrC l) 105)) := hb1.alloc hb1.size _
        generalize w1.alloc (.cells (arrC l) 105) = w2 at *
        refine (list_any l m w2 (by rw [HF.out, fillA_len]) (by omega)).mono ?_
        rintro e w4 ⟨A4, n4, c4, rfl, ho4, hb4⟩
        go_wp2
        go_ret
        have e1 := HF.out
        rw [e1, ← HL.out] at ho4
        rw [HE.out]
        exact Fresh.after hb2 ⟨A4, n4, c4, rfl, ho4, hb4⟩

theorem trimN_fill {xs : List Int} (h7 : xs.length ≤ 7) : ∀ k, k ≤ xs.length → trimN (fillA xs xs.length) k = trimN xs k := by
  intro k
  induction k with
  | zero => intro _; rfl
  | succ k ih => intro hk; unfold trimN; rw [ih (by omega), fillA_lt (by omega) (by omega)]

set_option maxHeartbeats 1000000 in
theorem implTrim_any (A : Option Addr) (n c : Nat) (xs : List Int) (w : World) (hs : SI w A n xs) (hn : n ≤ 1099511627776) :
    Calls Try.prog 42 #[.slice A n c] w fun e w' => Fresh w w' e (trimPerm xs) := by
  have hl := hs.1
  cases hu : isPermB xs with
  | false =>
    have HE := Lib.hid (trimPerm_no hu)
    have HU := Lib.hid hu
    clear hu
    go_enter Try.func42, Try.ntmps42
    go_wp2_with fail
    refine (arrayOf_x c HU.out hs hn).mono ?_
    rintro e w1 ⟨l, rfl, -, hb1⟩
    go_wp2
    go_ret
    rw [HE.out]
    exact Fresh.nil_ret (hb1.alloc hb1.size _)
  | true =>
    have HE := Lib.hid (trimPerm_yes hu)
    have HU := Lib.hid hu
    have HL := Lib.hid hl
    have hpos : 1 ≤ n := by have := (isPermB_P hu).1; omega
    have h7 : n ≤ 7 := by have := (isPermB_P hu).2.1; omega
    clear hu hl
    go_enter Try.func42, Try.ntmps42
    go_wp2_with fail
    refine (arrayOf_x c HU.out hs hn).mono ?_
    rintro e w1 ⟨l, rfl, hlf, hb1⟩
    have HF := Lib.hid (hlf rfl)
    clear hlf
    have hK := Blk.new w1 105 (arrC l)
    have hb2 : Below w.heap.size w (w1.alloc (.cells (arrC l) 105)) := hb1.alloc hb1.size _
    go_wp2
    obtain ⟨g, hg⟩ : ∃ g, g = w1.heap.size := ⟨_, rfl⟩
    rw [← hg] at hK ⊢
    generalize w1.alloc (.cells (arrC l) 105) = w2 at *
    clear hg
    have HK := Lib.hid hK
    clear hK
    go_loop [5] (fun v => ∃ k : Nat, k + 1 ≤ n ∧ v = .int .i64 ((k : Int) + 1) ∧ trimN l (k + 1) = trimN l n)
      (fun v => (intOf v).toNat)
    case atStart => exact ⟨n - 1, by omega, by go_num, by rw [show n - 1 + 1 = n from by omega]⟩
    case round =>
      obtain ⟨k, hk, rfl, htr⟩ := hrel
      have HT := Lib.hid htr
      have hck : w2.cell? ⟨g, k, none⟩ = some (.int .i64 (nth l k)) := (HK.out.cell _).trans (arrC_get l k (by omega))
      obtain ⟨x, hx⟩ : ∃ x, x = nth l k := ⟨_, rfl⟩
      rw [← hx] at hck
      have HX := Lib.hid hx
      clear htr hx
      have stop : ∀ (w4 : World) (e : Ending), trimN l (k + 1) = k + 1 → Fresh w2 w4 e (l.take (k + 1)) → Fresh w w4 e (trimPerm xs) := by
        intro w4 e h1 h2
        have e2 := HT.out
        have e1 := HF.out
        have e3 := HL.out
        have e4 := trimN_fill (xs := xs) (by omega) n (by omega)
        rw [e3, ← e1, ← e2, h1] at e4
        rw [HE.out, e3, ← e4]
        have e5 := fill_take_short (xs := xs) (k := k + 1) (by omega) (by omega)
        rw [e3, ← e1] at e5
        rw [← e5]
        exact Fresh.after hb2 h2
      have STOP := Lib.hid stop
      clear stop
      by_cases h0 : 0 < k
      · by_cases hxk : x = (k : Int)
        · subst hxk
          go_wp2
          go_round
          case rel =>
            have e1 := HX.out
            have e2 := HT.out
            rw [trimN_hit h0 e1.symm] at e2
            exact ⟨k - 1, by omega, by go_num, by rw [show k - 1 + 1 = k from by omega]; exact e2⟩
          case measure => simp only [intOf]; omega
        · have hxb : (x == (k : Int)) = false := by simpa using hxk
          have HX2 := Lib.hid hxk
          clear hxk
          have hsl : Calls Try.prog 112 #[arr l, .int .i64 ((k : Int) + 1)] w2 (fun e w' => Fresh w2 w' e (l.take (k + 1))) := list_any l (k + 1) w2 (by rw [HF.out, fillA_len]) (by omega)
          go_wp2_with (refine wpList_load_blk rfl 105 (.tmp 3) rfl g rfl 105 (arrC l) 7 3 HK.out Try.undArr Try.infoArr ?_)
          refine hsl.mono ?_
          intro e w4 hfr
          obtain ⟨A4, n4, c4, rfl, ho4, hb4⟩ := hfr
          go_wp2
          go_ret
          exact STOP.out _ _ (trimN_miss (by have := HX.out; have := HX2.out; rintro ⟨_, h⟩; omega)) ⟨A4, n4, c4, rfl, ho4, hb4⟩
      · have hk0 : k = 0 := by omega
        subst hk0
        have hsl : Calls Try.prog 112 #[arr l, .int .i64 1] w2 (fun e w' => Fresh w2 w' e (l.take 1)) := list_any l 1 w2 (by rw [HF.out, fillA_len]) (by omega)
        go_wp2_with (refine wpList_load_blk rfl 105 (.tmp 3) rfl g rfl 105 (arrC l) 7 3 HK.out Try.undArr Try.infoArr ?_)
        refine hsl.mono ?_
        intro e w4 hfr
        obtain ⟨A4, n4, c4, rfl, ho4, hb4⟩ := hfr
        go_wp2
        go_ret
        exact STOP.out _ _ (trimN_miss (by rintro ⟨h, _⟩; omega)) ⟨A4, n4, c4, rfl, ho4, hb4⟩

end Go.Proofs.Ytcoelbfcndeblaa

/-
  The library's sort: the worlds that it passes through, in the words of slices that a call owns. Plain lemmas. No conditions.
-/



namespace Go.Proofs.Ytcoelbfcndeblaa
open Go.RowKit

theorem ix_lt {n : Nat} (h : 0 < n) (i : Nat) : (if i < n then i else 0) < n := by split <;> omega
/-- A number as a place among the first n. -/
def ix (n i : Nat) : Nat := if i < n then i else 0
theorem ix_of {n i : Nat} (h : i < n) : ix n i = i := if_pos h
theorem ix_in {n : Nat} (h : 0 < n) (i : Nat) : ix n i < n := ix_lt h i

theorem sortWorld_block (enc : Nat → List Value) (size : Nat) (w : World) (g m : Nat) (dk : Array Nat) (os : Array Obj) {cur : Array Value} {e : TypeId} {fr : Nat × Nat} (h : w.heap[g]? = some (.cells cur e fr)) :
    (sortWorldK enc size w g 0 m dk os).heap[g]? = some (.cells (Go.Sort.putCells id 0 (Go.Sort.flatK enc size dk) cur) e fr) := by
  have hlt : g < w.heap.size := by
    rcases Nat.lt_or_ge g w.heap.size with h1 | h1
    · exact h1
    · rw [Array.getElem?_eq_none h1] at h; cases h
  unfold sortWorldK
  rw [Go.Sort.heap_grow_old _ _ (by rw [show (Go.Sort.putRowK enc size (Go.Sort.ahead w m) g 0 dk).heap.size = w.heap.size by simp [Go.Sort.putRowK, Go.Sort.ahead]]; exact hlt)]
  simp [Go.Sort.putRowK, Go.Sort.putRow, Go.Sort.mapBlock, Go.Sort.ahead, Array.getElem?_modify, h, Go.Sort.onCells]
theorem sortWorld_grown (enc : Nat → List Value) (size : Nat) (w : World) (g m : Nat) (dk : Array Nat) (os : Array Obj) : w.grownBy (sortWorldK enc size w g 0 m dk os) (some g) := by
  refine ⟨rfl, rfl, rfl, by simp [sortWorldK, Go.Sort.putRowK, Go.Sort.ahead], fun k hk hne => ?_⟩
  unfold sortWorldK
  rw [Go.Sort.heap_grow_old _ _ (by rw [show (Go.Sort.putRowK enc size (Go.Sort.ahead w m) g 0 dk).heap.size = w.heap.size by simp [Go.Sort.putRowK, Go.Sort.ahead]]; exact hk)]
  have hgk : g ≠ k := fun e => hne (by rw [e])
  simp [Go.Sort.putRowK, Go.Sort.putRow, Go.Sort.mapBlock, Go.Sort.ahead, Array.getElem?_modify, hgk]
/-- The row that the sort leaves is owned as the one that came. -/
theorem sortWorld_owns {w : World} {base size n c g : Nat} {e : TypeId} {xs : List Value} {enc : Nat → List Value} (h : w.ownsRow base e size (.slice (some ⟨g, 0, none⟩) n c) n xs) (m : Nat) (dk : Array Nat) (os : Array Obj) (hd : dk.size = n) :
    (sortWorldK enc size w g 0 m dk os).ownsRow base e size (.slice (some ⟨g, 0, none⟩) n c) n (Go.Sort.flatK enc size dk).toList := by
  obtain ⟨_, h2⟩ := h
  rcases h2 with ⟨hx, _⟩ | ⟨g', cap, cur, hv, hlo, hg, hnc, hcm, hcs, htake⟩
  · cases hx
  · simp only [Value.slice.injEq, Option.some.injEq, Addr.mk.injEq, and_true, true_and] at hv
    obtain ⟨rfl, rfl⟩ := hv
    refine ⟨by simp [hd], .inr ⟨g, c, _, rfl, hlo, sortWorld_block enc size w g m dk os hg, hnc, hcm, by simp [Go.Sort.putCells, hcs], ?_⟩⟩
    apply List.ext_getElem?
    intro j
    have hle : n * size ≤ cur.size := by rw [hcs]; exact Nat.mul_le_mul_right _ hnc
    by_cases hj : j < n * size
    · rw [List.getElem?_take_of_lt hj]
      simp only [Array.getElem?_toList, Go.Sort.putCells, Array.getElem?_mapIdx]
      rw [Array.getElem?_eq_getElem (show j < cur.size by omega), Option.map_some, if_pos ⟨Nat.zero_le _, by simp [hd]; omega⟩, Array.getElem?_eq_getElem (show j < (Go.Sort.flatK enc size dk).size by simp [hd]; omega), Nat.sub_zero, getElem!_pos (Go.Sort.flatK enc size dk) j (by simp [hd]; omega)]
      rfl
    · rw [List.getElem?_eq_none (by simp; omega), List.getElem?_eq_none (by simp [hd]; omega)]
/-- What an owned row holds, in the sort's words. -/
theorem holds_of_owns {w : World} {base size n c g : Nat} {e : TypeId} {xs : List Value} {enc : Nat → List Value} (h : w.ownsRow base e size (.slice (some ⟨g, 0, none⟩) n c) n xs) (d : Array Nat) (hx : xs = (Go.Sort.flatK enc size d).toList) : Go.Sort.HoldsK enc size w g 0 d := by
  intro j hj
  subst hx
  refine ⟨?_, h.frozenAt _⟩
  have hl := h.1
  simp at hl
  rw [Nat.zero_add, h.cellAt j (by rw [← hl]; simpa using hj)]
  simp only [Array.getElem?_toList]
  rw [Array.getElem?_eq_getElem hj, getElem!_pos (Go.Sort.flatK enc size d) j hj]
  rfl
/-- What was sorted, as lists: the places of the numbers in their new order. -/
theorem sorted_lists {n : Nat} {lt : Nat → Nat → Bool} {dk : Array Nat} (hp : Go.Sort.PermIn 0 (Array.range n).size (Array.range n) dk) (hs : Go.Sort.SortedIn lt 0 (Array.range n).size dk) :
    dk.size = n ∧ dk.toList.Perm (List.range n) ∧ dk.toList.Pairwise (fun i j => lt j i = false) := by
  obtain ⟨h1, _, h3⟩ := hp
  have hsz : dk.size = n := by simpa using h1
  refine ⟨hsz, ?_, ?_⟩
  · have e1 : dk.extract 0 (Array.range n).size = dk := by
      rw [Array.size_range, ← hsz]; simp
    have e2 : (Array.range n).extract 0 (Array.range n).size = Array.range n := by simp
    rw [e1, e2] at h3
    simpa using h3
  · rw [List.pairwise_iff_getElem]
    intro i j hi hj hij
    simp at hi hj
    have := hs i j (Nat.zero_le _) hij (by rw [Array.size_range]; omega)
    rw [getElem!_pos dk i (by omega), getElem!_pos dk j (by omega)] at this
    simpa using this
end Go.Proofs.Ytcoelbfcndeblaa

/-
  slices.SortFunc over terms by their exponents: a permutation in descending order, in the slice's own blocks. Conditions: seven exponents a term.
-/




namespace Go.Proofs.Ytcoelbfcndeblaa
open Go.RowKit

theorem cmpI_neg (a b : Int) : cmpI a b < 0 ↔ a < b := by unfold cmpI; split <;> (try split) <;> omega
theorem cmpI_pos (a b : Int) : 0 ≤ cmpI a b ↔ b ≤ a := by unfold cmpI; split <;> (try split) <;> omega
theorem cmpX_self (xs : List Int) : ∀ m, cmpX xs xs m = 0
  | 0 => rfl
  | m + 1 => (cmpX_eq rfl).trans (cmpX_self xs m)
theorem cmpX_trans {x y z : List Int} : ∀ m, cmpX x y m < 0 → cmpX y z m < 0 → cmpX x z m < 0
  | 0, h, _ => absurd h (by simp [cmpX])
  | m + 1, h1, h2 => by
    by_cases e1 : nth x m = nth y m
    · rw [cmpX_eq e1] at h1
      by_cases e2 : nth y m = nth z m
      · rw [cmpX_eq e2] at h2
        rw [cmpX_eq (e1.trans e2)]
        exact cmpX_trans m h1 h2
      · rw [cmpX_ne e2] at h2
        rw [cmpX_ne (by rw [e1]; exact e2), e1]
        exact h2
    · rw [cmpX_ne e1, cmpI_neg] at h1
      by_cases e2 : nth y m = nth z m
      · rw [cmpX_ne (by rw [← e2]; exact e1), ← e2, cmpI_neg]
        exact h1
      · rw [cmpX_ne e2, cmpI_neg] at h2
        rw [cmpX_ne (by omega), cmpI_neg]
        omega
theorem cmpX_ntrans {x y z : List Int} : ∀ m, 0 ≤ cmpX x y m → 0 ≤ cmpX y z m → 0 ≤ cmpX x z m
  | 0, _, _ => by simp [cmpX]
  | m + 1, h1, h2 => by
    by_cases e1 : nth x m = nth y m
    · rw [cmpX_eq e1] at h1
      by_cases e2 : nth y m = nth z m
      · rw [cmpX_eq e2] at h2
        rw [cmpX_eq (e1.trans e2)]
        exact cmpX_ntrans m h1 h2
      · rw [cmpX_ne e2] at h2
        rw [cmpX_ne (by rw [e1]; exact e2), e1]
        exact h2
    · rw [cmpX_ne e1, cmpI_pos] at h1
      by_cases e2 : nth y m = nth z m
      · rw [cmpX_ne (by rw [← e2]; exact e1), ← e2, cmpI_pos]
        exact h1
      · rw [cmpX_ne e2, cmpI_pos] at h2
        rw [cmpX_ne (by omega), cmpI_pos]
        omega
theorem swo_cmpX (f : Nat → List Int) : Go.Sort.SWO (ltOf fun i j : Nat => cmpX (f i) (f j) 7) where
  irrefl i := by
    show decide (cmpX (f i) (f i) 7 < 0) = false
    rw [cmpX_self]; rfl
  trans i j k h1 h2 := by
    have h1 : cmpX (f i) (f j) 7 < 0 := of_decide_eq_true h1
    have h2 : cmpX (f j) (f k) 7 < 0 := of_decide_eq_true h2
    exact decide_eq_true (cmpX_trans 7 h1 h2)
  ntrans i j k h1 h2 := by
    have h1 : ¬ cmpX (f i) (f j) 7 < 0 := of_decide_eq_false h1
    have h2 : ¬ cmpX (f j) (f k) 7 < 0 := of_decide_eq_false h2
    have := cmpX_ntrans 7 (Int.not_lt.1 h1) (Int.not_lt.1 h2)
    exact decide_eq_false (show ¬ cmpX (f i) (f k) 7 < 0 by omega)
theorem flat2 (dk : Array Nat) (enc : Nat → List Value) (f : Nat → Value × Value) (henc : ∀ k, k < dk.size → enc dk[k]! = [(f k).1, (f k).2]) : (Go.Sort.flatK enc 2 dk).toList = cells2 dk.size f := by
  apply List.ext_getElem?
  intro j
  by_cases hj : j < dk.size * 2
  · rw [cells2_get f hj, Array.getElem?_toList, Array.getElem?_eq_getElem (by simpa using hj), ← getElem!_pos (Go.Sort.flatK enc 2 dk) j (by simpa using hj), Go.Sort.get_flatK enc 2 dk j hj, henc (j / 2) (by omega)]
    rcases Nat.mod_two_eq_zero_or_one j with e | e <;> rw [e] <;> simp
  · rw [List.getElem?_eq_none (by simp; omega), List.getElem?_eq_none (by simp [cells2_len]; omega)]
theorem Try.isAggTerm (w : World) : (isAgg 94).run Try.prog w = .ok true w := by kernel_rfl
theorem Try.sizeTerm (w : World) : (sizeOf 94).run Try.prog w = .ok 2 w := by kernel_rfl

set_option maxHeartbeats 1000000 in
/-- At least one term. -/
theorem sortTerms_own (g n c lo hi : Nat) (ts : List Tm) (w : World) (h : OwnT w lo hi (some ⟨g, 0, none⟩) n c ts) (h0 : 0 < n) (hn : n ≤ 1099511627776) (h7 : ∀ k, k < n → (tm ts k).1.length = 7) :
    Calls Try.prog 92 #[.slice (some ⟨g, 0, none⟩) n c, .func (.func 93) #[] #[]] w fun e w' => e = .returned (.tuple #[]) ∧
      ∃ us : List Tm, us.Perm ts ∧ us.Pairwise (fun a b => 0 ≤ cmpX b.1 a.1 7) ∧ OwnT w' lo hi (some ⟨g, 0, none⟩) n c us ∧ w.grownBy w' (some g) := by
  obtain ⟨E, hl, ho, hh, he, hne, hdd⟩ := h
  have hg : g < w.heap.size := (ho.lt g rfl).2
  have hE : ∀ k, k < n → (E k).2.1 = 7 := fun k hk => by rw [← (he k hk).len]; exact h7 k hk
  obtain ⟨enc, henc⟩ : ∃ enc : Nat → List Value, enc = fun i => [sv (E (ix n i)), .int .i64 (tm ts (ix n i)).2] := ⟨_, rfl⟩
  have hk : ∀ x, (enc x).length = 2 := fun x => by rw [henc]; rfl
  have h1 : ∀ x, ∀ v ∈ enc x, v.oneCell' = true := fun x v hv => by
    rw [henc] at hv
    simp at hv
    rcases hv with rfl | rfl <;> rfl
  have hcells : cells2 n (fun k => (sv (E k), .int .i64 (tm ts k).2)) = (Go.Sort.flatK enc 2 (Array.range n)).toList := by
    rw [flat2 (Array.range n) enc (fun k => (sv (E k), .int .i64 (tm ts k).2)) (fun k hk => by
      rw [Array.size_range] at hk
      rw [getElem!_pos _ k (by simpa using hk), henc]
      simp [ix_of hk]), Array.size_range]
  have hH := holds_of_owns (enc := enc) ho (Array.range n) hcells
  have hcmp : CmpLays Try.prog 93 #[] enc 2 (fun i j => cmpX (tm ts (ix n i)).1 (tm ts (ix n j)).1 7) g 0 (Array.range n).size w := fun m os dk hd x y => by
    have gg := sortWorld_grown enc 2 w g m dk os
    have own : ∀ k, k < n → Own (sortWorldK enc 2 w g 0 m dk os) lo hi (E k).1 (E k).2.1 (E k).2.2 (tm ts k).1 := fun k hk => (he k hk).kept gg (fun b hb e2 => hne k b hk hb e2)
    have s1 := (own _ (ix_in h0 x)).si
    have s2 := (own _ (ix_in h0 y)).si
    rw [hE _ (ix_in h0 x)] at s1
    rw [hE _ (ix_in h0 y)] at s2
    have hc := compareTermsX_any (E (ix n x)).1 (E (ix n y)).1 (E (ix n x)).2.2 (E (ix n y)).2.2 _ _ (tm ts (ix n x)).2 (tm ts (ix n y)).2 _ s1 s2
    have e1 : (enc x).toArray = #[.slice (E (ix n x)).1 7 (E (ix n x)).2.2, .int .i64 (tm ts (ix n x)).2] := by rw [henc]; simp [sv, hE _ (ix_in h0 x)]
    have e2 : (enc y).toArray = #[.slice (E (ix n y)).1 7 (E (ix n y)).2.2, .int .i64 (tm ts (ix n y)).2] := by rw [henc]; simp [sv, hE _ (ix_in h0 y)]
    rw [e1, e2]
    exact hc
  have eg : ∀ args w, (callFunc 93 args).run Try.prog w = .ok (.enter 93 args) w := enters_of Try.func93 (by kernel_rfl) rfl
  have hcon := AnyQ.slices_SortFunc Try.sortT 2 Try.isAggTerm Try.sizeTerm enc hk h1 (fun i j => cmpX (tm ts (ix n i)).1 (tm ts (ix n j)).1 7) (swo_cmpX fun i => (tm ts (ix n i)).1) 93 #[] g 0 c (Array.range n) w eg hcmp hH hg (by rw [Array.size_range]; omega)
  change Calls Try.prog 92 _ _ _ at hcon
  rw [Array.size_range] at hcon
  refine hcon.mono ?_
  rintro e w' ⟨rfl, dk, m, os, hp, hs, rfl⟩
  obtain ⟨hsz, hperm, hsort⟩ := sorted_lists (by rw [Array.size_range]; exact hp) (by rw [Array.size_range]; exact hs)
  have gg := sortWorld_grown enc 2 w g m dk os
  have hin : ∀ k, k < n → dk[k]! < n := fun k hk => by
    have : dk[k]! ∈ dk.toList := by
      rw [getElem!_pos dk k (by omega)]
      exact Array.getElem_mem_toList _
    have := hperm.mem_iff.1 this
    simpa using this
  have hinj : ∀ i j, i < j → j < n → dk[i]! ≠ dk[j]! := fun i j hij hj e => by
    have hnd : dk.toList.Nodup := hperm.nodup_iff.2 List.nodup_range
    rw [getElem!_pos dk i (by omega), getElem!_pos dk j (by omega)] at e
    have := (List.nodup_iff_pairwise_ne.1 hnd)
    rw [List.pairwise_iff_getElem] at this
    exact this i j (by simp; omega) (by simp; omega) hij (by simpa using e)
  obtain ⟨us, hus⟩ : ∃ us, us = dk.toList.map (tm ts) := ⟨_, rfl⟩
  have hul : us.length = n := by rw [hus]; simp [hsz]
  have htm : ∀ k, k < n → tm us k = tm ts dk[k]! := fun k hk => by
    rw [hus, getElem!_pos dk k (by omega)]
    unfold tm
    simp [List.getD, show k < dk.size by omega]
  refine ⟨rfl, us, ?_, ?_, ?_, gg⟩
  · have e1 : ts = (List.range n).map (tm ts) := by
      apply List.ext_getElem (by simp [hl])
      intro k hk1 hk2
      simp [tm, List.getD, hk1]
    rw [hus]
    have := hperm.map (tm ts)
    rwa [← e1] at this
  · rw [hus, List.pairwise_map]
    refine hsort.imp_of_mem ?_
    intro i j hi hj hlt
    have hi := hperm.mem_iff.1 hi
    have hj := hperm.mem_iff.1 hj
    simp at hi hj
    have hlt : ¬ cmpX (tm ts (ix n j)).1 (tm ts (ix n i)).1 7 < 0 := of_decide_eq_false hlt
    rw [ix_of hi, ix_of hj] at hlt
    omega
  · refine ⟨fun k => E dk[k]!, hul, ?_, hh, fun j hj => ?_, fun j b hj hb => hne _ b (hin j hj) hb, fun i j b hij hj hb e2 => ?_⟩
    · have o2 := sortWorld_owns (enc := enc) ho m dk os hsz
      refine row_eq o2 ?_
      rw [flat2 dk enc (fun k => (sv (E dk[k]!), .int .i64 (tm us k).2)) (fun k hk => by
        rw [henc]
        simp only [ix_of (hin k (by omega))]
        rw [htm k (by omega)]), hsz]
    · rw [htm j hj]
      exact (he _ (hin j hj)).kept gg (fun b hb e2 => hne _ b (hin j hj) hb e2)
    · have hd := hinj i j hij hj
      rcases Nat.lt_or_ge dk[i]! dk[j]! with hlt | hge
      · exact hdd _ _ b hlt (hin j hj) hb e2
      · exact hdd _ _ b (by omega) (hin i (by omega)) e2 hb
end Go.Proofs.Ytcoelbfcndeblaa

/-
  A term cloned, by the program. Conditions: lengths below 2^40.
-/



namespace Go.Proofs.Ytcoelbfcndeblaa
open Go.RowKit

set_option maxRecDepth 100000 in
set_option maxHeartbeats 800000 in
theorem termClone_any (A : Option Addr) (n c : Nat) (xs : List Int) (x : Int) (w : World) (hs : SI w A n xs) (hA : A = none → n = 0 ∧ c = 0) (hn : n ≤ 1099511627776) :
    Calls Try.prog 91 #[.agg #[.slice A n c, .int .i64 x]] w fun e w' => ∃ A' c', e = .returned (.agg #[.slice A' n c', .int .i64 x]) ∧ Own w' w.heap.size w'.heap.size A' n c' xs ∧ Below w.heap.size w w' := by
  have hlx := hs.1
  go_enter Try.func91, Try.ntmps91
  go_wp2_with fail
  obtain ⟨g1, hg1⟩ : ∃ g1, g1 = w.heap.size := ⟨_, rfl⟩
  have hK1 : Blk ((w.alloc (.cells #[.slice A n c, .int .i64 x] 94)).alloc (.cells #[.slice none 0 0, .int .i64 0] 94)) g1 94 #[.slice A n c, .int .i64 x] := by rw [hg1]; exact (Blk.new w _ _).alloc _
  have hK2 : Blk ((w.alloc (.cells #[.slice A n c, .int .i64 x] 94)).alloc (.cells #[.slice none 0 0, .int .i64 0] 94)) (w.heap.size + 1) 94 #[.slice none 0 0, .int .i64 0] := by
    have := Blk.new (w.alloc (.cells #[.slice A n c, .int .i64 x] 94)) 94 #[.slice none 0 0, .int .i64 0]
    simpa using this
  have hb3 : Below w.heap.size w ((w.alloc (.cells #[.slice A n c, .int .i64 x] 94)).alloc (.cells #[.slice none 0 0, .int .i64 0] 94)) := by go_grown
  have hs3 := hs.below hb3 (Nat.le_refl _)
  generalize ((w.alloc (.cells #[.slice A n c, .int .i64 x] 94)).alloc (.cells #[.slice none 0 0, .int .i64 0] 94)) = w3 at *
  rw [← hg1] at hK2 ⊢
  obtain ⟨g2, hg2⟩ : ∃ g2, g2 = g1 + 1 := ⟨_, rfl⟩
  rw [← hg2] at hK2 ⊢
  have q0 : w3.cell? ⟨g1, 0, none⟩ = some (.slice A n c) := hK1.cell 0
  have q1 : w3.cell? ⟨g1, 1, none⟩ = some (.int .i64 x) := hK1.cell 1
  have hsd : SI w3.drew A n xs := hs3.below ((Below.refl w3.heap.size w3).drew) (Nat.le_refl _)
  have HSD := Lib.hid hsd
  have HK1 := Lib.hid hK1
  have HK2 := Lib.hid hK2
  have HB3 := Lib.hid hb3
  have hl3 := hK2.lt
  have n1 : ¬ g1 = g2 := by omega
  have n2 : ¬ g2 = g1 := by omega
  have HG := Lib.hid (And.intro hg1 hg2)
  have hl1 : g1 < w3.heap.size := by omega
  clear hg1 hg2 hs3 hsd hK1 hK2 hb3 hs
  go_region_held3 (fun w' => w'.cell? ⟨g1, 0, none⟩ = some (.slice A n c) ∧ w'.cell? ⟨g1, 1, none⟩ = some (.int .i64 x))
    (first | go_keep | exact K4)
    ((refine (clone_any A n c xs w3.drew HSD.out hA hn).mono ?_
      rintro r w4 ⟨A4, n4, c4, rfl, ho4, hb4⟩
      obtain rfl : n = n4 := by have := ho4.len; omega
      have k1 := HK1.out.below ((Below.refl w3.heap.size w3).drew.trans hb4) (by omega)
      have k2 := HK2.out.below ((Below.refl w3.heap.size w3).drew.trans hb4) (by omega)
      have K4 : w4.cell? ⟨g1, 0, none⟩ = some (.slice A n c) ∧ w4.cell? ⟨g1, 1, none⟩ = some (.int .i64 x) := ⟨k1.cell 0, k1.cell 1⟩
      have hc5 : w4.cell? ⟨g2, 0, none⟩ = some (.slice none 0 0) := k2.cell 0
      have hf5 := k2.frozen 0
      have hc6 : w4.cell? ⟨g2, 1, none⟩ = some (.int .i64 0) := k2.cell 1
      have hf6 := k2.frozen 1
      have H2 := Lib.hid k2
      have HO4 := Lib.hid ho4
      have HB4 := Lib.hid (HB3.out.trans (((Below.refl w3.heap.size w3).drew.trans hb4).mono HB3.out.size))
      clear k1 k2 ho4 hb4))
  obtain ⟨hg1, hg2⟩ := HG.out
  go_wp2
  have R := (H2.out.set_ 0 (.slice A4 n c4)).set_ 1 (.int .i64 x)
  refine bodyPost_ret (results_row Try.results91 _ _ g2 94 #[.slice A4 n c4, .int .i64 x] _ rfl R Try.underlying94 rfl (by kernel_rfl)) rfl ?_
  refine ⟨A4, c4, rfl, ?_, ?_⟩
  · refine ((HO4.out.kept (grown_set _ _ _) ?_).kept (grown_set _ _ _) ?_).wide (by show w.heap.size ≤ w3.heap.size; omega) (by simp) <;>
      (intro b hb e; have := HO4.out.lt b hb; injection e with e; have e3 : w3.heap.size ≤ b := this.1; simp only [] at e; omega)
  · exact (HB4.out.setCell (by show w.heap.size ≤ g2; omega) _).setCell (by show w.heap.size ≤ g2; omega) _
end Go.Proofs.Ytcoelbfcndeblaa

/-
  Variables exchanged, the program's side. Conditions: lengths below 2^40.
-/






namespace Go.Proofs.Ytcoelbfcndeblaa
open Go.RowKit

theorem insSort_none (A : Option Addr) (c : Nat) (f : Value) (w : World) : Calls Try.prog 194 #[.slice A 0 c, .int .i64 0, .int .i64 0, f] w fun e w' => e = .returned (.tuple #[]) ∧ w = w' := by
  go_enter Try.func194, Try.ntmps194
  go_wp2
  refine wp_loop_rounds 1 ?_
  rw [rounds_succ]
  go_wp2
  go_end0
  exact ⟨rfl, rfl⟩
set_option maxRecDepth 100000 in
set_option maxHeartbeats 1000000 in
theorem pdq_none (A : Option Addr) (c : Nat) (lim : Int) (f : Value) (w : World) : Calls Try.prog 161 #[.slice A 0 c, .int .i64 0, .int .i64 0, .int .i64 lim, f] w fun e w' => e = .returned (.tuple #[]) ∧ w = w' := by
  go_enter Try.func161, Try.ntmps161
  go_wp2
  refine wp_loop_rounds 1 ?_
  rw [rounds_succ]
  go_wp2_with (go_at_call 194; refine (insSort_none A c f _).mono ?_; rintro e w' ⟨rfl, rfl⟩)
  (try simp only [Exit.inBlock, Exit.then])
  refine bodyPost_ret (results_none rfl _ _ _) rfl ?_
  exact ⟨rfl, rfl⟩
theorem bitsLen_zero (w : World) : Calls Try.prog 162 #[.int .u64 0] w fun e w' => e = .returned (.int .i64 0) ∧ w = w' := by
  have L := Try.sortT
  have h := Any.bits_Len (SlLaysF0.n15.bits (P := Try.prog) (ρ := Try.sortT_ren) { L with }) (0 : Int) w (by omega) (by omega)
  exact h.mono fun _ _ ⟨h1, h2⟩ => ⟨by rw [h1]; rfl, h2.symm⟩
/-- No term at all. -/
theorem sortTerms_none (A : Option Addr) (c : Nat) (f : Value) (w : World) : Calls Try.prog 92 #[.slice A 0 c, f] w fun e w' => e = .returned (.tuple #[]) ∧ w = w' := by
  go_enter Try.func92, Try.ntmps92
  go_wp2_with (first | (go_at_call 162; refine (bitsLen_zero _).mono ?_; rintro e w' ⟨rfl, rfl⟩) | (go_at_call 161; refine (pdq_none A c _ f _).mono ?_; rintro e w' ⟨rfl, rfl⟩))
  go_end0
  exact ⟨rfl, rfl⟩
/-- A slice of terms of the call's own sorted, however many. -/
theorem sortTerms_any (A : Option Addr) (n c lo hi : Nat) (ts : List Tm) (w : World) (h : OwnT w lo hi A n c ts) (hn : n ≤ 1099511627776) (h7 : ∀ k, k < n → (tm ts k).1.length = 7) :
    Calls Try.prog 92 #[.slice A n c, .func (.func 93) #[] #[]] w fun e w' => e = .returned (.tuple #[]) ∧
      ∃ us : List Tm, us.Perm ts ∧ us.Pairwise (fun a b => 0 ≤ cmpX b.1 a.1 7) ∧ OwnT w' lo hi A n c us ∧ w.grownBy w' (Value.slice A n c).ownBlock := by
  rcases Nat.eq_zero_or_pos n with h0 | h0
  · subst h0
    have hx : ts = [] := List.eq_nil_of_length_eq_zero h.len
    subst hx
    refine (sortTerms_none A c _ w).mono ?_
    rintro e w' ⟨rfl, rfl⟩
    exact ⟨rfl, [], List.Perm.refl _, List.Pairwise.nil, h, World.grownBy.refl _ _⟩
  · obtain ⟨g, rfl, _, _⟩ := h.place h0
    exact sortTerms_own g n c lo hi ts w h h0 hn h7

/-- Terms with other exponents, sorted: they are a polynomial. -/
theorem swap_sorted {ts us : List Tm} {i : Nat} (hp : polyB ts = true) (hi : i ≤ 5) (hperm : us.Perm (swT ts i)) (hs : us.Pairwise (fun a b => 0 ≤ cmpX b.1 a.1 7)) : us = swapPoly ts i := by
  have hex := polyB_ex7 hp
  have hexS := swT_ex7 hex (i := i) (by omega)
  have hexU : ∀ u ∈ us, ex7 u.1 := fun u hu => hexS u (hperm.mem_iff.1 hu)
  have hkeys : ∀ a ∈ us, ∀ b ∈ us, 0 ≤ cmpX b.1 a.1 7 → key7 b.1 ≤ key7 a.1 := fun a ha b hb h => by
    have ea := hexU a ha
    have eb := hexU b hb
    rw [cmpX_key eb.1 ea.1 eb.2 ea.2 7 (Nat.le_refl _) (fun j h1 h2 => absurd h1 (by omega))] at h
    unfold cmpK at h
    split at h
    · omega
    · omega
  have hnd : (us.map fun t => key7 t.1).Nodup := by
    have h1 : ((swT ts i).map fun t => key7 t.1).Nodup := by
      have hd := polyB_desc hp
      unfold swT
      rw [List.map_map]
      have h2 : (ts.map fun t => swK (key7 t.1) i).Nodup := by
        unfold List.Nodup
        rw [List.pairwise_map]
        refine hd.imp_of_mem ?_
        intro a b ha hb hlt e
        rw [swK_key (hex a ha) (by omega), swK_key (hex b hb) (by omega)] at e
        have e2 := key7_inj (swE_ex7 (hex a ha) (i := i) (by omega)) (swE_ex7 (hex b hb) (i := i) (by omega)) e
        have e3 : ∀ k, k < 7 → nth a.1 k = nth b.1 k := fun k hk => by
          have ha7 := (hex a ha).1
          have hb7 := (hex b hb).1
          have q : ∀ j, j < 7 → nth (swE a.1 i) j = nth (swE b.1 i) j := fun j _ => by rw [e2]
          unfold swE at q
          by_cases h1 : k = i
          · have := q (i + 1) (by omega)
            rw [putE_nth (by omega) _ _ (by omega), putE_nth (by omega) _ _ (by omega), if_pos rfl, if_pos rfl] at this
            rw [h1]; exact this
          · by_cases h2 : k = i + 1
            · have := q i (by omega)
              rw [putE_nth (by omega) _ _ (by omega), putE_nth (by omega) _ _ (by omega), if_neg (show ¬ i = i + 1 by omega), if_pos rfl, if_neg (show ¬ i = i + 1 by omega), if_pos rfl] at this
              rw [h2]; exact this
            · have := q k hk
              rw [putE_nth (by omega) _ _ (by omega), putE_nth (by omega) _ _ (by omega), if_neg h2, if_neg h1, if_neg h2, if_neg h1] at this
              exact this
        have e4 : a.1 = b.1 := by
          apply List.ext_getElem (by rw [(hex a ha).1, (hex b hb).1])
          intro k h1 h2
          rw [← nth_get, ← nth_get]
          exact e3 k (by rw [(hex a ha).1] at h1; exact h1)
        rw [e4] at hlt; omega
      have e : (ts.map ((fun t : Tm => key7 t.1) ∘ fun t => (swE t.1 i, t.2))) = ts.map fun t => swK (key7 t.1) i := by
        apply List.map_congr_left
        intro t ht
        show key7 (swE t.1 i) = swK (key7 t.1) i
        rw [swK_key (hex t ht) (by omega)]
      rw [e]; exact h2
    exact (hperm.map fun t => key7 t.1).nodup_iff.2 h1
  have hdesc : us.Pairwise fun a b => key7 b.1 < key7 a.1 := by
    unfold List.Nodup at hnd
    rw [List.pairwise_map] at hnd
    refine (hs.imp_of_mem (S := fun a b => key7 b.1 ≤ key7 a.1) (fun ha hb h => hkeys _ ha _ hb h)).imp₂ ?_ hnd
    intro a b h1 h2
    omega
  have hgood : ∀ u ∈ us, goodT u = true := fun u hu => by
    have := hperm.mem_iff.1 hu
    unfold swT at this
    obtain ⟨t, ht, rfl⟩ := List.mem_map.1 this
    have hg := (goodT_iff _).1 (polyB_good' hp t ht)
    refine (goodT_iff _).2 ⟨(swE_ex7 (hex t ht) (by omega)).1, smallE_all fun k hk => ?_, hg.2.2.1, hg.2.2.2.1, hg.2.2.2.2⟩
    have h7 := hg.1
    have hk7 : k < 7 := by rw [(swE_ex7 (hex t ht) (i := i) (by omega)).1] at hk; exact hk
    show 0 ≤ nth (swE t.1 i) k ∧ nth (swE t.1 i) k ≤ 24
    unfold swE
    rw [putE_nth (by omega) _ _ (by omega)]
    split
    · exact smallE_nth hg.2.1 (by omega)
    · split
      · exact smallE_nth hg.2.1 (by omega)
      · exact smallE_nth hg.2.1 (by omega)
  have hpU : polyB us = true := polyB_of (by rw [hperm.length_eq]; unfold swT; rw [List.length_map]; exact polyB_len hp) hgood hdesc
  rw [swapPoly_yes hp hi, open_swT hex (by omega), gather_open hdesc (fun u hu => good_in64 (hgood u hu)) (fun k => by
    rw [cfL_perm (show (openM us).Perm (openM (swT ts i)) from hperm.map _)]; exact eqm.refl _), shut_open hexU, if_pos hpU]

theorem hasPairAt_any (i : Int) (w : World) : Calls Try.prog 90 #[.int .i64 i] w fun e w' => e = .returned (.bool (decide (0 ≤ i ∧ i ≤ 5))) ∧ w = w' := by
  by_cases h0 : 0 ≤ i
  · by_cases h1 : i ≤ 5
    · rw [decide_eq_true ⟨h0, h1⟩]
      go_enter Try.func90, Try.ntmps90
      go_wp2
      go_ret
      exact ⟨rfl, rfl⟩
    · rw [decide_eq_false (fun h => h1 h.2)]
      go_enter Try.func90, Try.ntmps90
      go_wp2
      go_ret
      exact ⟨rfl, rfl⟩
  · rw [decide_eq_false (fun h => h0 h.1)]
    go_enter Try.func90, Try.ntmps90
    go_wp2
    go_ret
    exact ⟨rfl, rfl⟩
/-- The terms as they stand after k rounds. -/
def stT (ts : List Tm) (i k : Nat) : List Tm := swT (ts.take k) i ++ zeroT (ts.length - k)
theorem stT_zero (ts : List Tm) (i : Nat) : stT ts i 0 = zeroT ts.length := by simp [stT, swT]
theorem stT_all (ts : List Tm) (i : Nat) : stT ts i ts.length = swT ts i := by simp [stT, zeroT]
theorem stT_len {ts : List Tm} {i k : Nat} (h : k ≤ ts.length) : (stT ts i k).length = ts.length := by simp [stT, swT, zeroT]; omega
theorem stT_succ {ts : List Tm} {i k : Nat} (h : k < ts.length) (y : Tm) : ((stT ts i k).set k y).set k (swE (tm ts k).1 i, (tm ts k).2) = stT ts i (k + 1) := by
  rw [List.set_set]
  unfold stT zeroT
  have hl : (swT (ts.take k) i).length = k := by simp [swT]; omega
  rw [List.set_append_right _ _ (by omega), hl]
  have e : ts.length - k = (ts.length - (k + 1)) + 1 := by omega
  rw [e, List.replicate_succ, Nat.sub_self, List.set_cons_zero, take_tm h]
  unfold swT
  rw [List.map_append, List.append_assoc]
  rfl
set_option maxRecDepth 100000 in
set_option maxHeartbeats 2000000 in
theorem implSwap_any (A : Option Addr) (n c : Nat) (ts : List Tm) (i : Int) (w : World) (hs : TS w A n ts) (hn : n ≤ 1099511627776) (hne : ∀ k, k < n → (tm ts k).1.length ≤ 1099511627776) :
    Calls Try.prog 24 #[.slice A n c, .int .i64 i] w fun r w' => FreshT w w' r (swapPoly ts i) := by
  have hP := implPolyOk_any A n c ts w hs hn hne
  have hV := fun w => hasPairAt_any i w
  cases hu : polyB ts with
  | false =>
    rw [hu] at hP
    have HE := Lib.hid (swapPoly_no (ts := ts) (i := i) (fun h => by rw [hu] at h; cases h.1))
    have HP := Lib.hid hP
    clear hP hu hV
    go_enter Try.func24, Try.ntmps24
    go_wp2_with (go_at_call 78; refine HP.out.mono ?_; rintro e w7 ⟨rfl, hd7⟩; have HD7 := Lib.hid hd7; clear hd7)
    go_ret
    rw [HE.out]
    exact FreshT.nil_ret HD7.out
  | true =>
    rw [hu] at hP
    by_cases hi : 0 ≤ i ∧ i ≤ 5
    · obtain ⟨m, rfl⟩ : ∃ m : Nat, i = m := ⟨i.toNat, by omega⟩
      have hm5 : m ≤ 5 := by omega
      have HU := Lib.hid hu
      have hnl : n ≤ 600 := by have := polyB_len hu; have := hs.1; omega
      have HL := Lib.hid hs.1
      rw [decide_eq_true hi] at hV
      have HP := Lib.hid hP
      have HV := Lib.hid hV
      clear hP hu hV hi hne
      go_enter Try.func24, Try.ntmps24
      go_wp2_with (first
        | (go_at_call 78; refine HP.out.mono ?_; rintro e w7 ⟨rfl, hd7⟩; have HD7 := Lib.hid hd7; clear hd7)
        | (go_at_call 90; refine (HV.out _).mono ?_; rintro e w8 ⟨rfl, rfl⟩)
        | (at_make; refine wpList_make_terms rfl (.tmp 17) (.tmp 17) rfl n rfl rfl hn ?_; intro w1 hown hbel1; have HO := Lib.hid hown; have HB := Lib.hid hbel1; clear hown hbel1))
      obtain ⟨B, hB⟩ : ∃ B, B = w7.heap.size := ⟨_, rfl⟩
      have hB0 : w.heap.size ≤ B := by rw [hB]; exact HD7.out.size
      rw [← hB] at HO HB ⊢
      have HBW : Hid (Below w.heap.size w w1) := Lib.hid (HD7.out.trans (HB.out.mono hB0))
      have HOO : Hid (OwnT w1 B w1.heap.size (some ⟨B, 0, none⟩) n n (stT ts m 0)) := Lib.hid (by rw [stT_zero, HL.out]; exact HO.out)
      have HZB : Hid (B ≤ w1.heap.size) := Lib.hid (by have := HB.out.size; rw [← hB] at this; exact this)
      clear hB HO HB
      go_loopw [21] (fun iv wr => ∃ k : Nat, k ≤ n ∧ iv = .int .i64 k ∧ OwnT wr B wr.heap.size (some ⟨B, 0, none⟩) n n (stT ts m k) ∧ Below w.heap.size w wr ∧ B ≤ wr.heap.size)
        (fun iv _ => n - (intOf iv).toNat)
      case atStart => exact ⟨0, Nat.zero_le _, rfl, HOO.out, HBW.out, HZB.out⟩
      case round =>
        obtain ⟨k, hk, rfl, ho, hb, hz⟩ := hrel
        clear HOO HBW HZB
        have HO := Lib.hid ho
        have HB := Lib.hid hb
        have HZ := Lib.hid hz
        have hwr := hb.size
        by_cases hlt : k < n
        · have hltI : (k : Int) < (n : Int) := by omega
          obtain ⟨b, o, A2, n2, c2, rfl, hbw, hc0', hc1', hsi', hnc, hnil⟩ := hs.at_ hlt
          have hc0 := (hb.cell (p := ⟨b, o + k * 2, none⟩) hbw).trans hc0'
          have hc1 := (hb.cell (p := ⟨b, o + k * 2 + 1, none⟩) hbw).trans hc1'
          have hb2w : ∃ b2 o2, A2 = some ⟨b2, o2, none⟩ ∧ b2 < w.heap.size := by
            obtain ⟨b2, o2, e, h, _⟩ := hsi'.at_ (by
              have hg := (goodT_iff _).1 (polyB_good HU.out (k := k) (by rw [HL.out]; exact hlt))
              have := hsi'.1; omega)
            exact ⟨b2, o2, e, h⟩
          have hsi := hsi'.below hb (Nat.le_refl _)
          clear ho hb hz hc0' hc1' hsi'
          have hg := (goodT_iff _).1 (polyB_good HU.out (k := k) (by rw [HL.out]; exact hlt))
          obtain rfl : n2 = 7 := by rw [← hsi.1]; exact hg.1
          obtain ⟨b2, o2, rfl, hb2w⟩ := hb2w
          have hcx : ∀ j, j < 7 → wr.cell? ⟨b2, o2 + j, none⟩ = some (.int .i64 (nth (tm ts k).1 j)) := by
            obtain ⟨b3, o3, e3, _, hc3⟩ := hsi.at_ (by omega)
            simp only [Option.some.injEq, Addr.mk.injEq, and_true] at e3
            obtain ⟨rfl, rfl⟩ := e3
            exact hc3
          obtain ⟨z, hz⟩ : ∃ z, z = (tm ts k).2 := ⟨_, rfl⟩
          rw [← hz] at hc1
          obtain ⟨w2, hw2⟩ : ∃ w2, w2 = wr.alloc (.cells #[.slice (some ⟨b2, o2, none⟩) 7 c2, .int .i64 z] 94) := ⟨_, rfl⟩
          obtain ⟨G, hG⟩ : ∃ G, G = wr.heap.size := ⟨_, rfl⟩
          have hK2 : Blk w2 G 94 #[.slice (some ⟨b2, o2, none⟩) 7 c2, .int .i64 z] := by rw [hw2, hG]; exact Blk.new _ _ _
          have hbel2 : Below wr.heap.size wr w2 := by rw [hw2]; exact (Below.refl _ _).alloc (Nat.le_refl _) _
          have CL := (termClone_any (some ⟨b2, o2, none⟩) 7 c2 (tm ts k).1 z w2 (hsi.below hbel2 (Nat.le_refl _)) (fun h => by cases h) (by omega))
          have HW2 := Lib.hid hw2
          have HG := Lib.hid hG
          have HCL := Lib.hid CL
          have HK2 := Lib.hid hK2
          have HB2 := Lib.hid hbel2
          have HZ2 := Lib.hid hz
          have HCX := Lib.hid hcx
          have HG7 := Lib.hid hg
          clear hsi hcx hg CL hK2 hbel2 hnil hz hw2 hG
          go_wp2_with fail
          rw [← HW2.out]
          refine HCL.out.mono ?_
          rintro e w3 ⟨A3, c3, rfl, ho3, hb3⟩
          obtain ⟨g3, rfl, hg3l, hg3h⟩ := ho3.place (by omega)
          have hz2 : wr.heap.size ≤ w2.heap.size := HB2.out.size
          have hO3 := (HO.out.below HB2.out (Nat.le_refl _)).below hb3 hz2
          have hput := hO3.put hlt ho3 hz2 (by have := HZ.out; omega) (by have := hb3.size; omega) z
          obtain ⟨A4, n4, c4, hd0, hd1, hfz, _⟩ := hO3.exp hlt
          have hf0 := hfz (k * 2)
          have hf1 := hfz (k * 2 + 1)
          have HPUT := Lib.hid hput
          have HO3 := Lib.hid ho3
          have HB3 := Lib.hid hb3
          clear hput hO3 ho3 hb3 hfz hc0 hc1
          go_wp2_with fail
          obtain ⟨w4, hw4⟩ : ∃ w4, w4 = (w3.setCell ⟨B, k * 2, none⟩ (.slice (some ⟨g3, 0, none⟩) 7 c3)).setCell ⟨B, k * 2 + 1, none⟩ (.int .i64 z) := ⟨_, rfl⟩
          rw [← hw4, ← HG.out]
          have hGB : B < G := by
            obtain ⟨g, e, _, h⟩ := HO.out.place (by omega)
            simp only [Option.some.injEq, Addr.mk.injEq, and_true] at e
            rw [HG.out, e]; exact h
          have hG2 : G < w2.heap.size := HK2.out.lt
          have hwrG : w.heap.size ≤ G := by rw [HG.out]; exact hwr
          have oth : ∀ x j, x ≠ B → w4.cell? ⟨x, j, none⟩ = w3.cell? ⟨x, j, none⟩ := fun x j hx => by
            rw [hw4, World.cell?_setCell_other _ _ _ _ (by intro e; injection e with e; exact hx e.symm), World.cell?_setCell_other _ _ _ _ (by intro e; injection e with e; exact hx e.symm)]
          have ofz : ∀ x j, x ≠ B → w4.frozen? ⟨x, j, none⟩ = w3.frozen? ⟨x, j, none⟩ := fun x j _ => by rw [hw4]; simp
          have q0 : w4.cell? ⟨B, k * 2, none⟩ = some (.slice (some ⟨g3, 0, none⟩) 7 c3) := by
            rw [hw4, World.cell?_setCell_other _ _ _ _ (by intro e; injection e with _ e; omega), World.cell?_setCell_same _ _ _ hd0]
          have q1 : w4.cell? ⟨G, 0, none⟩ = some (.slice (some ⟨b2, o2, none⟩) 7 c2) := by
            rw [oth G 0 (by omega)]; exact (Below.cell HB3.out (p := ⟨G, 0, none⟩) hG2).trans (HK2.out.cell 0)
          have hg3B : g3 ≠ B := by have := hg3l; omega
          obtain ⟨x0, hx0⟩ : ∃ x0, x0 = nth (tm ts k).1 m := ⟨_, rfl⟩
          obtain ⟨x1, hx1⟩ : ∃ x1, x1 = nth (tm ts k).1 (m + 1) := ⟨_, rfl⟩
          have pre : ∀ j, j < 7 → w4.cell? ⟨b2, o2 + j, none⟩ = some (.int .i64 (nth (tm ts k).1 j)) := fun j hj => by
            rw [oth b2 (o2 + j) (by omega)]
            exact ((HB3.out.cell (p := ⟨b2, o2 + j, none⟩) (by show b2 < w2.heap.size; omega)).trans (HB2.out.cell (p := ⟨b2, o2 + j, none⟩) (by show b2 < wr.heap.size; omega))).trans (HCX.out j hj)
          have q2 := pre m (by omega)
          have q3 := pre (m + 1) (by omega)
          have r0 : w4.cell? ⟨g3, m, none⟩ = some (.int .i64 (nth (tm ts k).1 m)) := by rw [oth g3 m hg3B]; exact HO3.out.cellAt (k := m) (by omega)
          have r1 : w4.cell? ⟨g3, m + 1, none⟩ = some (.int .i64 (nth (tm ts k).1 (m + 1))) := by rw [oth g3 (m + 1) hg3B]; exact HO3.out.cellAt (k := m + 1) (by omega)
          have f0 : w4.frozen? ⟨g3, m, none⟩ = false := by rw [ofz g3 m hg3B]; exact HO3.out.frozenAt m
          have f1 : w4.frozen? ⟨g3, m + 1, none⟩ = false := by rw [ofz g3 (m + 1) hg3B]; exact HO3.out.frozenAt (m + 1)
          rw [← hx0] at q2 r0
          rw [← hx1] at q3 r1
          have r2 : (w4.setCell ⟨g3, m, none⟩ (.int .i64 x1)).cell? ⟨g3, m + 1, none⟩ = some (.int .i64 x1) := (World.cell?_setCell_other w4 _ _ _ (by intro e; injection e with _ e; omega)).trans r1
          have f2 : (w4.setCell ⟨g3, m, none⟩ (.int .i64 x1)).frozen? ⟨g3, m + 1, none⟩ = false := by simpa using f1
          have hm1 : IntKind.i64.wrap ((m : Int) + 1) = (m : Int) + 1 := IntWalk.i64_in _ (by omega)
          have hmI : (m : Int) < 7 := by omega
          have hmI1 : (m : Int) + 1 < 7 := by omega
          have hnz : ¬ (m : Int) + 1 < 0 := by omega
          have HW4 := Lib.hid hw4
          have HX0 := Lib.hid hx0
          have HX1 := Lib.hid hx1
          have HG3 := Lib.hid (And.intro hg3B (And.intro hg3l hg3h))
          have HGB := Lib.hid (And.intro hGB (And.intro hG2 hwrG))
          clear hw4 hx0 hx1 hg3B hg3l hg3h hGB hG2 hwrG oth ofz pre hd0 hd1 hf0 hf1
          go_region
          go_wp2
          go_roundw
          case rel =>
            obtain ⟨hg3B, hg3l, hg3h⟩ := HG3.out
            obtain ⟨hGB, hG2, hwrG⟩ := HGB.out
            have hGe := HG.out
            have h4 : OwnT w4 B w3.heap.size (some ⟨B, 0, none⟩) n n ((stT ts m k).set k ((tm ts k).1, z)) := by rw [HW4.out]; exact HPUT.out.1
            have hl4 : (stT ts m k).length = n := by rw [stT_len (by rw [HL.out]; omega), HL.out]
            obtain ⟨A', n', c', e0, _, _, ho, back⟩ := h4.exp hlt
            rw [q0] at e0
            simp only [Option.some.injEq, Value.slice.injEq] at e0
            obtain ⟨rfl, rfl, rfl⟩ := e0
            rw [tm_set (by omega), if_pos rfl] at ho back
            have s1 := ho.set_ (k := m) x1
            have s2 := s1.1.set_ (k := m + 1) x0
            have gg := (s1.2.trans s2.2)
            have hb := back _ _ s2.1 gg
            have e5 : ((tm ts k).1.set m x1).set (m + 1) x0 = swE (tm ts k).1 m := by rw [HX0.out, HX1.out]; rfl
            rw [e5, HZ2.out, stT_succ (by rw [HL.out]; exact hlt)] at hb
            have hsz : w3.heap.size ≤ (((w4.setCell ⟨g3, m, none⟩ (.int .i64 x1)).setCell ⟨g3, m + 1, none⟩ (.int .i64 x0)).drew).heap.size := by
              have : w4.heap.size = w3.heap.size := by rw [HW4.out]; simp
              show w3.heap.size ≤ ((w4.setCell ⟨g3, m, none⟩ (.int .i64 x1)).setCell ⟨g3, m + 1, none⟩ (.int .i64 x0)).heap.size
              simp [this]
            have hbw4 : Below w.heap.size w w4 := by
              rw [HW4.out]
              exact ((((HB.out.trans (HB2.out.mono hwr)).trans (HB3.out.mono (by omega))).setCell (p := ⟨B, k * 2, none⟩) hB0 _)).setCell (p := ⟨B, k * 2 + 1, none⟩) hB0 _
            refine ⟨k + 1, by omega, by go_num, (hb.drawn ⟨1, rfl⟩).wide (Nat.le_refl _) hsz, ?_, ?_⟩
            · exact ((hbw4.setCell (p := ⟨g3, m, none⟩) (by show w.heap.size ≤ g3; omega) _).setCell (p := ⟨g3, m + 1, none⟩) (by show w.heap.size ≤ g3; omega) _).drew
            · have := HB3.out.size
              omega
          case measure => simp [intOf]; omega
        · have hkn : k = n := by omega
          subst hkn
          have HOL : Hid (OwnT wr B wr.heap.size (some ⟨B, 0, none⟩) k k (swT ts m)) := Lib.hid (by have := HO.out; rwa [← HL.out, stT_all, HL.out] at this)
          have HST := Lib.hid (sortTerms_any (some ⟨B, 0, none⟩) k k B wr.heap.size (swT ts m) wr HOL.out hn (fun j hj => (swT_ex7 (polyB_ex7 HU.out) (by omega) _ (tm_mem (by rw [HOL.out.len]; exact hj))).1))
          clear hb ho hz
          go_wp2_with (go_at_call 92
                       refine HST.out.mono ?_
                       rintro e w5 ⟨rfl, us, hp, hsort, ho5, hg5⟩
                       have HPS := Lib.hid (And.intro hp hsort)
                       have HO5 := Lib.hid ho5
                       have HG5 := Lib.hid hg5
                       clear hp hsort ho5 hg5)
          go_ret
          have hus := swap_sorted HU.out hm5 HPS.out.1 HPS.out.2
          rw [← hus]
          refine ⟨_, k, k, rfl, HO5.out.wide hB0 HG5.out.size, ?_⟩
          exact HB.out.grown HG5.out HB.out.size (by rintro q ⟨⟩; exact hB0)
    · have HE := Lib.hid (swapPoly_no (ts := ts) (i := i) (fun h => hi h.2))
      rw [decide_eq_false hi] at hV
      have HP := Lib.hid hP
      have HV := Lib.hid hV
      clear hP hu hV hi
      go_enter Try.func24, Try.ntmps24
      go_wp2_with (first
        | (go_at_call 78; refine HP.out.mono ?_; rintro e w7 ⟨rfl, hd7⟩; have HD7 := Lib.hid hd7; clear hd7)
        | (go_at_call 90; refine (HV.out _).mono ?_; rintro e w8 ⟨rfl, rfl⟩))
      go_ret
      rw [HE.out]
      exact FreshT.nil_ret HD7.out
theorem shutL_small (l : List Mn) : smallT (shutL l) := by
  unfold shutL
  split
  · rename_i h
    exact ⟨polyB_len h, fun t ht => by have := ((goodT_iff _).1 (polyB_good' h t ht)).1; omega⟩
  · exact ⟨by simp, fun t ht => by simp at ht⟩
theorem swapPoly_small (ts : List Tm) (i : Int) : smallT (swapPoly ts i) := by
  unfold swapPoly
  split
  · exact shutL_small _
  · exact ⟨by simp, fun t ht => by simp at ht⟩
end Go.Proofs.Ytcoelbfcndeblaa

/-
  The program's polynomials under construction: their terms in order. Conditions: exponents from 0 to 127.
-/



namespace Go.Proofs.Ytcoelbfcndeblaa
open Go.RowKit

/-- The terms that are not 0. -/
def nzT (M : List Tm) : List Tm := M.filter fun t => t.2 != 0
theorem nzT_app (M : List Tm) (t : Tm) : nzT (M ++ [t]) = if t.2 = 0 then nzT M else nzT M ++ [t] := by
  unfold nzT
  rw [List.filter_append]
  by_cases h : t.2 = 0
  · rw [if_pos h]; simp [h]
  · rw [if_neg h]; simp [h]
theorem nzT_perm {a b : List Tm} (h : a.Perm b) : (nzT a).Perm (nzT b) := h.filter _
theorem nzT_cf (k : Int) : ∀ M : List Tm, cfL (openM (nzT M)) k = cfL (openM M) k
  | [] => rfl
  | t :: M => by
    have ih := nzT_cf k M
    unfold nzT at ih ⊢
    show _ = (if key7 t.1 = k then t.2 else 0) + cfL (openM M) k
    by_cases h : t.2 = 0
    · rw [List.filter_cons_of_neg (by simpa using h), ih, h]; split <;> omega
    · rw [List.filter_cons_of_pos (by simpa using h)]
      show (if key7 t.1 = k then t.2 else 0) + cfL (openM (List.filter _ M)) k = _
      rw [ih]
/-- The terms in order give what the document gathers. -/
theorem nz_sorted {M us : List Tm} {L : List Mn} (hg : goodM M) (hn : (M.map (·.1)).Nodup) (hL : sameC (openM M) L) (hperm : us.Perm (nzT M)) (hs : us.Pairwise (fun a b => 0 ≤ cmpX b.1 a.1 7)) :
    gatherL L = openM us ∧ (∀ u ∈ us, ex7 u.1) := by
  have hmem : ∀ u ∈ us, u ∈ M ∧ u.2 ≠ 0 := fun u hu => by
    have := hperm.mem_iff.1 hu
    unfold nzT at this
    have := List.mem_filter.1 this
    exact ⟨this.1, by simpa using this.2⟩
  have hexU : ∀ u ∈ us, ex7 u.1 := fun u hu => (hg u (hmem u hu).1).1
  have hkeys : ∀ a ∈ us, ∀ b ∈ us, 0 ≤ cmpX b.1 a.1 7 → key7 b.1 ≤ key7 a.1 := fun a ha b hb h => by
    have ea := hexU a ha
    have eb := hexU b hb
    rw [cmpX_key eb.1 ea.1 eb.2 ea.2 7 (Nat.le_refl _) (fun j h1 h2 => absurd h1 (by omega))] at h
    unfold cmpK at h
    split at h
    · omega
    · omega
  have hnd : (us.map fun t => key7 t.1).Nodup := by
    have h1 : ((nzT M).map (·.1)).Nodup := (List.filter_sublist.map _).nodup hn
    have h2 : (us.map (·.1)).Nodup := (hperm.map _).nodup_iff.2 h1
    unfold List.Nodup at h2 ⊢
    rw [List.pairwise_map] at h2 ⊢
    exact h2.imp_of_mem fun ha hb hne e => hne (key7_inj (hexU _ ha) (hexU _ hb) e)
  have hdesc : us.Pairwise fun a b => key7 b.1 < key7 a.1 := by
    unfold List.Nodup at hnd
    rw [List.pairwise_map] at hnd
    refine (hs.imp_of_mem (S := fun a b => key7 b.1 ≤ key7 a.1) (fun ha hb h => hkeys _ ha _ hb h)).imp₂ ?_ hnd
    intro a b h1 h2
    omega
  refine ⟨gather_open hdesc (fun u hu => ⟨(hmem u hu).2, (hg u (hmem u hu).1).2⟩) (fun k => ?_), hexU⟩
  rw [cfL_perm (show (openM us).Perm (openM (nzT M)) from hperm.map _), nzT_cf]
  exact hL k
def kleT (a b : Tm) : Bool := decide (key7 b.1 ≤ key7 a.1)
theorem nz_len {M : List Tm} {L : List Mn} (hg : goodM M) (hn : (M.map (·.1)).Nodup) (hL : sameC (openM M) L) : (gatherL L).length = (nzT M).length := by
  have hperm := List.mergeSort_perm (nzT M) kleT
  have hs := List.pairwise_mergeSort (le := kleT) (fun a b c h1 h2 => by unfold kleT at *; simp only [decide_eq_true_eq] at *; omega) (fun a b => by unfold kleT; rcases Int.le_total (key7 b.1) (key7 a.1) with h | h <;> simp [h]) (nzT M)
  have hmem : ∀ u ∈ (nzT M).mergeSort kleT, ex7 u.1 := fun u hu => (hg u (List.mem_filter.1 (hperm.mem_iff.1 hu)).1).1
  have hs' : ((nzT M).mergeSort kleT).Pairwise (fun a b => 0 ≤ cmpX b.1 a.1 7) := by
    refine hs.imp_of_mem ?_
    intro a b ha hb h
    have ea := hmem a ha
    have eb := hmem b hb
    rw [cmpX_key eb.1 ea.1 eb.2 ea.2 7 (Nat.le_refl _) (fun j h1 h2 => absurd h1 (by omega))]
    unfold kleT at h
    simp only [decide_eq_true_eq] at h
    unfold cmpK
    split
    · omega
    · split <;> omega
  rw [(nz_sorted hg hn hL hperm hs').1]
  unfold openM
  rw [List.length_map, hperm.length_eq]
theorem nz_none {M : List Tm} {L : List Mn} (hg : goodM M) (hn : (M.map (·.1)).Nodup) (hL : sameC (openM M) L) (h : 600 < (nzT M).length) : polyB (termsK (gatherL L)) = false ∧ shutL (gatherL L) = [] := by
  have h1 : polyB (termsK (gatherL L)) = false := polyB_big (by unfold termsK; rw [List.length_map, nz_len hg hn hL]; exact h)
  exact ⟨h1, by unfold shutL; rw [h1]; rfl⟩

theorem RangeE.nz_le {w : World} {b r : Nat} {M done : List Tm} (h : RangeE w b r M done) : (nzT done).length ≤ (nzT M).length := by
  obtain ⟨es, clock, since, seen, c0, _, _, _, _, _, _, _, _, todo, _, hp⟩ := h
  have := (nzT_perm hp).length_eq
  unfold nzT at *
  rw [List.filter_append, List.length_append] at this
  omega
theorem OwnT.place0 {w : World} {lo hi n c : Nat} {A : Option Addr} {ts : List Tm} (h : OwnT w lo hi A n c ts) : ∀ g, (Value.slice A n c).ownBlock = some g → lo ≤ g := fun g hg => by
  obtain ⟨E, _, ho, _⟩ := h
  exact (ho.lt g hg).1
/-- 'f = append(f, Term{..})'. -/
theorem wpList_appendT (w : World) {ops : Array Oper} {rest : List Oper} {o : Oper} {a : Act} {Q : Exit → Act → World → Prop} (hgd : o.guard = none) (s x : Operand)
    (ho : o.op = .call { callee := .builtin .append, args := #[s, x], argTypes := #[24, 24] })
    (lo hi : Nat) (A : Option Addr) (n c : Nat) (ts : List Tm) (lo2 hi2 : Nat) (A3 : Option Addr) (n3 c3 : Nat) (xs : List Int) (z : Int) (nb : Nat) (hs : a.eval s = .slice A n c) (hx : a.eval x = .slice (some ⟨nb, 0, none⟩) 1 1) (hblk : Blk w nb 94 #[.slice A3 n3 c3, .int .i64 z])
    (hown : OwnT w lo hi A n c ts) (hxs : Own w lo2 hi2 A3 n3 c3 xs) (hlo : lo ≤ lo2) (hd : hi ≤ lo2) (h1 : hi2 ≤ w.heap.size) (h2 : hi ≤ w.heap.size) (h3 : lo ≤ w.heap.size) (hn : n ≤ 1099511627776)
    (h : ∀ A' c' w', OwnT w' lo w'.heap.size A' (n + 1) c' (ts ++ [(xs, z)]) → Below lo w w' → wpList Try.prog ops Q rest (a.put o.dst (.slice A' (n + 1) c')) w') :
    wpList Try.prog ops Q (o :: rest) a w :=
  wpList_step fun _ hK => step_appendT w hgd s x ho lo hi A n c ts lo2 hi2 A3 n3 c3 xs z nb hs hx hblk hown hxs hlo hd h1 h2 h3 hn fun A' c' w' k1 k2 => hK _ _ (h A' c' w' k1 k2)
set_option maxRecDepth 100000 in
set_option maxHeartbeats 2000000 in
theorem terms_any (gp bp : Nat) (M : List Tm) (L : List Mn) (w : World) (hp : SumP w gp bp M) (hL : sameC (openM M) L) :
    Calls Try.prog 81 #[.pointer (some ⟨gp, 0, none⟩)] w fun e w' => ∃ A n c, e = .returned (.tuple #[.slice A n c, .bool (polyB (termsK (gatherL L)))]) ∧ OwnT w' w.heap.size w'.heap.size A n c (shutL (gatherL L)) ∧ Below w.heap.size w w' := by
  have HP := Lib.hid hp
  have HLP := Lib.hid hp.2.lt
  have HGD := Lib.hid hp.2.good
  have HND := Lib.hid hp.2.nodup
  have HL := Lib.hid hL
  have hf := hp.field
  clear hp hL
  go_enter Try.func81, Try.ntmps81
  go_wp2_with (first
    | (at_range; refine wpList_rangeE _ rfl _ rfl rfl HP.out.2 ?_; intro w0 hrg0 hg0 hs0)
    | go_in)
  go_frame
  obtain ⟨R, hR⟩ : ∃ R, R = w.heap.size := ⟨_, rfl⟩
  have HRW := Lib.hid hR
  rw [← hR] at hrg0 ⊢
  have HR0 := Lib.hid hrg0
  have HB0 : Hid (Below R w w0) := Lib.hid (grown_belowM hg0 (by omega) (by simp))
  have HS0 : Hid (R + 1 ≤ w0.heap.size) := Lib.hid (by omega)
  clear hrg0 hg0 hs0 hf hR
  go_loopw [4, 12] (fun fv _ wr => ∃ A5 n5 c5 done, fv = .slice A5 n5 c5 ∧ OwnT wr (R + 1) wr.heap.size A5 n5 c5 (nzT done) ∧ n5 ≤ 600 ∧ RangeE wr bp R M done ∧ Below R w wr ∧ R + 1 ≤ wr.heap.size)
    (fun _ _ wr => wr.rangeLeft bp R)
  case atStart => exact ⟨none, 0, 0, [], rfl, OwnT.nil _ _ _, by omega, HR0.out, HB0.out, HS0.out⟩
  case round =>
    obtain ⟨A5, n5, c5, done, rfl, ho, hn5, hrg, hb, hz⟩ := hrel
    clear HR0 HB0 HS0
    have HO := Lib.hid ho
    have HRG := Lib.hid hrg
    have HB := Lib.hid hb
    have HZ := Lib.hid hz
    clear ho hrg hb hz
    go_wp2_with (first
      | (at_next; refine wpList_nextE _ rfl _ rfl rfl HRG.out ?_ ?_)
      | go_in)
    · intro hdone
      have HD := Lib.hid hdone
      have hn40 : n5 ≤ 1099511627776 := by omega
      have HST := Lib.hid (sortTerms_any A5 n5 c5 (R + 1) wr.heap.size (nzT done) wr HO.out hn40 (fun j hj => by have h := tm_mem (ts := nzT done) (k := j) (by rw [HO.out.len]; exact hj); exact (HGD.out _ (hdone.mem_iff.1 (List.mem_filter.1 h).1)).1.1))
      clear hdone
      go_wp2_with (first
        | (go_at_call 92
           refine HST.out.mono ?_
           rintro r w5 ⟨rfl, us, hperm, hsort, ho5, hg5⟩
           have HN := Lib.hid (nz_sorted HGD.out HND.out HL.out (hperm.trans (nzT_perm HD.out)) hsort)
           have HLE : Hid (wr.heap.size ≤ w5.heap.size) := Lib.hid hg5.size
           have HB5 : Hid (Below R w w5) := Lib.hid (HB.out.trans (grown_belowM hg5 (by have := HZ.out; omega) (fun g hg => by
             have := HO.out.place0 g hg; omega)))
           have HO5 := Lib.hid ho5
           clear hperm hsort hg5 ho5)
        | (go_at_call 78
           refine (implPolyOk_any A5 n5 c5 us _ HO5.out.si hn40 (fun j hj => by have := (HN.out.2 _ (tm_mem (by rw [HO5.out.len]; exact hj))).1; omega)).mono ?_
           rintro r w6 ⟨rfl, hb6⟩
           have HB6 := Lib.hid hb6
           clear hb6))
      · rename_i hq
        have hq' : polyB us = false := by revert hq; cases polyB us <;> simp
        go_ret2
        rw [HN.out.1, termsK_open HN.out.2, shut_open HN.out.2, hq', if_neg (by simp)]
        exact ⟨none, 0, 0, rfl, OwnT.nil _ _ _, by rw [← HRW.out]; exact HB5.out.trans (HB6.out.mono (by have := HB5.out.size; have := HLE.out; have := HZ.out; omega))⟩
      · rename_i hq
        have hq' : polyB us = true := by revert hq; cases polyB us <;> simp
        go_ret2
        rw [HN.out.1, termsK_open HN.out.2, shut_open HN.out.2, hq', if_pos rfl]
        exact ⟨A5, n5, c5, rfl, (HO5.out.below HB6.out HLE.out).wide (by rw [← HRW.out]; omega) (Nat.le_trans HLE.out HB6.out.size), by rw [← HRW.out]; exact HB5.out.trans (HB6.out.mono (by have := HB5.out.size; have := HLE.out; have := HZ.out; omega))⟩
    · intro e c w2 htM hrg1 hlt hg1 hs1 hen
      have hex : ex7 e := (HGD.out _ htM).1
      have HEX := Lib.hid hex
      have HLT := Lib.hid hlt
      have HLW : Hid (w2.heap.size = wr.heap.size) := Lib.hid hs1
      have HNZ := Lib.hid (hrg1.nz_le)
      have hZ := HZ.out
      have hRR := HRW.out
      have ho2 : OwnT w2 (R + 1) w2.heap.size A5 n5 c5 (nzT done) := (HO.out.within (Within.of_grown hg1 (lo := R) (hi := R + 1) (fun g hg => by injection hg with hg; omega)) (.inr (Nat.le_refl _))).wide (Nat.le_refl _) (by omega)
      have hb2 : Below R w w2 := HB.out.trans (grown_belowM hg1 (by omega) (fun j hj => by injection hj with hj; omega))
      have hb3 : Below R w (w2.alloc (.cells (arrC e) 156)) := hb2.alloc (by omega) _
      have hr3 : RangeE (w2.alloc (.cells (arrC e) 156)) bp R M (done ++ [(e, c)]) := hrg1.kept (World.grownBy_alloc _ (.cells (arrC e) 156) none) (by simp) (by simp)
      have ho3 : OwnT (w2.alloc (.cells (arrC e) 156)) (R + 1) w2.heap.size A5 n5 c5 (nzT done) := ho2.below ((Below.refl w2.heap.size w2).alloc (Nat.le_refl _) _) (Nat.le_refl _)
      have hA : Blk (w2.alloc (.cells (arrC e) 156)) w2.heap.size 156 (arrC e) := Blk.new _ _ _
      have h3s : (w2.alloc (.cells (arrC e) 156)).heap.size = w2.heap.size + 1 := by simp
      have hmeas : ∀ w9, RangeE w9 bp R M (done ++ [(e, c)]) → w9.rangeLeft bp R < wr.rangeLeft bp R := fun w9 h9 => by
        have h1 := h9.left_eq
        have h2 := HRG.out.left_eq
        have h3 := HLT.out
        rw [List.length_append] at h1
        simp at h1
        omega
      have HM := Lib.hid hmeas
      have HB3 := Lib.hid hb3
      have HR3 := Lib.hid hr3
      have HO3 := Lib.hid ho3
      obtain ⟨nb, hnb⟩ : ∃ nb, nb = w2.heap.size := ⟨_, rfl⟩
      clear ho2 hb2 hb3 hr3 ho3 hrg1 hlt hg1 hs1 hex htM hZ hRR hmeas
      go_upto_region 5 with fail
      rw [← hnb] at hA ⊢
      have HA := Lib.hid hA
      have HNB := Lib.hid hnb
      clear hA hnb hen
      generalize (w2.alloc (.cells (arrC e) 156)) = w3 at *
      have HW3 : Hid (w3.heap.size = w2.heap.size + 1) := Lib.hid h3s
      clear h3s
      by_cases hc : c = 0
      · have HE : Hid (nzT (done ++ [(e, c)]) = nzT done) := Lib.hid (by rw [nzT_app]; exact if_pos hc)
        have hcb : (c == 0) = true := by simpa using hc
        go_wp2_with fail
        go_roundw
        case rel => exact ⟨A5, n5, c5, _, rfl, by rw [HE.out]; exact HO3.out.wide (Nat.le_refl _) (by have := HW3.out; omega), hn5, HR3.out, HB3.out, by have := HW3.out; have := HLW.out; have := HZ.out; omega⟩
        case measure => exact HM.out _ HR3.out
      · have HE : Hid (nzT (done ++ [(e, c)]) = nzT done ++ [(e, c)]) := Lib.hid (by rw [nzT_app]; exact if_neg hc)
        have hcb : (c == 0) = false := by simpa using hc
        by_cases hfull : n5 = 600
        · have hfI : (n5 : Int) = 600 := by omega
          have HNO := Lib.hid (nz_none HGD.out HND.out HL.out (by have h1 := HNZ.out; rw [HE.out, List.length_append, HO.out.len] at h1; simp at h1; omega))
          subst hfull
          clear hfI
          go_wp2_with fail
          go_ret2
          rw [HNO.out.1, HNO.out.2]
          exact ⟨none, 0, 0, rfl, OwnT.nil _ _ _, by rw [← HRW.out]; exact HB3.out⟩
        · have hfI : ¬ (n5 : Int) = 600 := by omega
          have hsi : SI w3 (some ⟨nb, 0, none⟩) 7 e := ⟨HEX.out.1, fun _ => ⟨nb, 0, rfl, HA.out.lt, fun k hk => by rw [Nat.zero_add, HA.out.cell k]; exact arrC_get e k hk⟩⟩
          have HCL := Lib.hid (clone_any (some ⟨nb, 0, none⟩) 7 7 e w3 hsi (fun h => by cases h) (by omega))
          clear hsi
          go_wp2_with (first
            | (go_at_call 154
               refine HCL.out.mono ?_
               rintro r w4 ⟨A4, n4, c4, rfl, ho4, hb4⟩
               obtain rfl : 7 = n4 := by have := ho4.len; rw [HEX.out.1] at this; exact this
               have HO4 := Lib.hid ho4
               have HB4 := Lib.hid hb4
               clear ho4 hb4)
            | (at_builtin
               refine wpList_appendT _ rfl (.tmp 22) (.tmp 27) rfl (R + 1) w2.heap.size A5 n5 c5 (nzT done) w3.heap.size w4.heap.size A4 7 c4 e c w4.heap.size rfl rfl (Blk.new w4 _ _)
                 ((HO3.out.below HB4.out (by have := HW3.out; omega)).below ((Below.refl w4.heap.size w4).alloc (Nat.le_refl _) _) (by have := HB4.out.size; have := HW3.out; omega)) (HO4.out.below ((Below.refl w4.heap.size w4).alloc (Nat.le_refl _) _) (Nat.le_refl _))
                 (by have := HW3.out; have := HLW.out; have := HZ.out; omega) (by have := HW3.out; omega) (by simp) (by have := HB4.out.size; have := HW3.out; simp; omega) (by have := HB4.out.size; have := HW3.out; have := HLW.out; have := HZ.out; simp; omega) (by omega) ?_
               intro A6 c6 w6 ho6 hb6
               have HO6 := Lib.hid ho6
               have HB6 : Hid (Below (R + 1) w3 w6) := Lib.hid (((HB4.out.mono (by have := HW3.out; have := HLW.out; have := HZ.out; omega)).alloc (by have := HB4.out.size; have := HW3.out; have := HLW.out; have := HZ.out; omega) _).trans hb6)
               clear ho6 hb6)
            | go_in)
          have HR6 := Lib.hid (HR3.out.below HB6.out (by have := HLP.out; have := HRW.out; omega) (by omega))
          go_roundw
          case rel => exact ⟨A6, n5 + 1, c6, _, rfl, by rw [HE.out]; exact HO6.out, by omega, HR6.out, HB3.out.trans (HB6.out.mono (by omega)), by have := HB6.out.size; have := HW3.out; have := HLW.out; have := HZ.out; omega⟩
          case measure => exact HM.out _ HR6.out
end Go.Proofs.Ytcoelbfcndeblaa

/-
  The program's operations on polynomials. Conditions: lengths below 2^40.
-/



namespace Go.Proofs.Ytcoelbfcndeblaa
open Go.RowKit

theorem scale_scale (c z : Int) (F : List Mn) : sameC (scaleM (w64 (c * z)) F) (scaleM c (scaleM z F)) := by
  unfold scaleM
  rw [List.map_map]
  refine sameC_map (fun u : Mn => u.1) (fun u => w64 (w64 (c * z) * u.2)) (fun u => w64 (c * w64 (z * u.2))) F fun u _ => ?_
  refine (w64_eqm _).trans (((w64_eqm _).mul_right u.2).trans ?_)
  rw [Int.mul_assoc]
  exact (((w64_eqm (z * u.2)).mul_left c).symm).trans (w64_eqm _).symm
theorem lin_scale (f : Int → List Mn) (c : Int) : ∀ l : List Mn, sameC (linL f (scaleM c l)) (scaleM c (linL f l))
  | [] => sameC.refl _
  | t :: l => by
    have e1 : linL f (scaleM c (t :: l)) = scaleM (w64 (c * t.2)) (f t.1) ++ linL f (scaleM c l) := rfl
    have e2 : scaleM c (linL f (t :: l)) = scaleM c (scaleM t.2 (f t.1)) ++ scaleM c (linL f l) := by
      rw [show linL f (t :: l) = scaleM t.2 (f t.1) ++ linL f l from rfl, scaleM_app]
    rw [e1, e2]
    exact (scale_scale c t.2 _).app (lin_scale f c l)
theorem iso_same (i : Nat) (l : List Mn) : sameC (isoL i l) (divL i (l ++ scaleM (-1) (shiftL (i + 1) l))) := by
  unfold isoL
  have e : divL i (l ++ scaleM (-1) (shiftL (i + 1) l)) = divL i l ++ divL i (scaleM (-1) (shiftL (i + 1) l)) := linL_app _ _ _
  rw [e]
  exact (sameC.refl _).app (lin_scale _ _ _).symm
theorem polyB_all' {ts : List Tm} (h : polyB ts = true) {n : Nat} (hl : ts.length = n) : (∀ k, k < n → ex7 (tm ts k).1 ∧ in64 (tm ts k).2) ∧ ∀ k, k < n → ∀ j, j < 7 → nth (tm ts k).1 j ≤ 24 :=
  ⟨fun _ hk => ⟨polyB_ex7 h _ (tm_mem (by rw [hl]; exact hk)), (good_in64 (polyB_good' h _ (tm_mem (by rw [hl]; exact hk)))).2⟩, fun _ hk => polyB_cap h _ (tm_mem (by rw [hl]; exact hk))⟩
set_option maxRecDepth 100000 in
set_option maxHeartbeats 1000000 in
theorem applyDividedDifference_any (A : Option Addr) (n c : Nat) (ts : List Tm) (i : Int) (w : World) (hs : TS w A n ts) (hn : n ≤ 1099511627776) (hne : ∀ k, k < n → (tm ts k).1.length ≤ 1099511627776) :
    Calls Try.prog 82 #[.slice A n c, .int .i64 i, .func (.func 83) #[] #[]] w fun r w' => FreshTB w w' r (outB (opOk ts i) (ddP ts i)) (outL (opOk ts i) (ddP ts i)) := by
  have hP := implPolyOk_any A n c ts w hs hn hne
  have hV := fun w => hasPairAt_any i w
  cases hu : polyB ts with
  | false =>
    rw [hu] at hP
    have HE := Lib.hid (outB_no (ok := opOk ts i) (L := ddP ts i) (by unfold opOk; rw [hu]; rfl))
    have HP := Lib.hid hP
    clear hP hu hV
    go_enter Try.func82, Try.ntmps82
    go_wp2_with (go_at_call 78; refine HP.out.mono ?_; rintro e w7 ⟨rfl, hd7⟩; have HD7 := Lib.hid hd7; clear hd7)
    go_ret2
    rw [HE.out.1, HE.out.2]
    exact FreshTB.nil_ret HD7.out
  | true =>
    rw [hu] at hP
    by_cases hi : 0 ≤ i ∧ i ≤ 5
    · have HE := Lib.hid (outB_yes (ok := opOk ts i) (L := ddP ts i) (by unfold opOk; rw [hu, decide_eq_true hi]; rfl))
      obtain ⟨m, rfl⟩ : ∃ m : Nat, i = m := ⟨i.toNat, by omega⟩
      have hm5 : m < 6 := by omega
      have HALL := Lib.hid (polyB_all' hu hs.1)
      rw [decide_eq_true hi] at hV
      have HP := Lib.hid hP
      have HV := Lib.hid hV
      have HSU := Lib.hid (fun w' (hd : Below w.heap.size w w') => sumOf_any A n c ts 24 w' (hs.below hd (Nat.le_refl _)) hn HALL.out.1 HALL.out.2)
      clear hP hu hV hi hs
      go_enter Try.func82, Try.ntmps82
      go_wp2_with (first
        | (go_at_call 78; refine HP.out.mono ?_; rintro e w7 ⟨rfl, hd7⟩; have HD7 := Lib.hid hd7; clear hd7)
        | (go_at_call 90; refine (HV.out _).mono ?_; rintro e w8 ⟨rfl, rfl⟩)
        | (go_at_call 79; refine (HSU.out _ HD7.out).mono ?_; rintro e w1 ⟨g1, b1, M1, rfl, hs1, _, _, hm1, hc1, hb1⟩
           have HS1 := Lib.hid hs1; have HM1 := Lib.hid hm1; have HC1 := Lib.hid hc1
           have HB1 : Hid (Below w.heap.size w w1) := Lib.hid (HD7.out.trans (hb1.mono HD7.out.size))
           clear hs1 hm1 hc1 hb1)
        | (go_at_call 83; refine (divided_any g1 b1 M1 m 24 _ HS1.out HC1.out hm5).mono ?_; rintro e w2 ⟨g2, b2, M2, rfl, hs2, _, _, hm2, hc2, hb2⟩
           have HS2 := Lib.hid hs2
           have HM2 : Hid (sameC (openM M2) (ddP ts (m : Int))) := Lib.hid (hm2.trans (by unfold ddP; rw [Int.toNat_natCast]; exact HM1.out.lin _))
           have HB2 : Hid (Below w.heap.size w w2) := Lib.hid (HB1.out.trans (hb2.mono HB1.out.size))
           clear hs2 hm2 hc2 hb2)
        | (go_at_call 81; refine (terms_any g2 b2 M2 (ddP ts (m : Int)) _ HS2.out HM2.out).mono ?_; rintro e w3 ⟨A3, n3, c3, rfl, ho, hb⟩
           have HB3 : Hid (Below w.heap.size w w3) := Lib.hid (HB2.out.trans (hb.mono HB2.out.size))
           have HO3 := Lib.hid ho
           have HZ3 := Lib.hid HB2.out.size
           clear ho hb))
      go_ret2
      rw [HE.out.1, HE.out.2]
      exact ⟨A3, n3, c3, rfl, HO3.out.wide HZ3.out (Nat.le_refl _), HB3.out⟩
    · have HE := Lib.hid (outB_no (ok := opOk ts i) (L := ddP ts i) (by unfold opOk; rw [decide_eq_false hi, Bool.and_false]))
      rw [decide_eq_false hi] at hV
      have HP := Lib.hid hP
      have HV := Lib.hid hV
      clear hP hu hV hi
      go_enter Try.func82, Try.ntmps82
      go_wp2_with (first
        | (go_at_call 78; refine HP.out.mono ?_; rintro e w7 ⟨rfl, hd7⟩; have HD7 := Lib.hid hd7; clear hd7)
        | (go_at_call 90; refine (HV.out _).mono ?_; rintro e w8 ⟨rfl, rfl⟩))
      go_ret2
      rw [HE.out.1, HE.out.2]
      exact FreshTB.nil_ret HD7.out
set_option maxHeartbeats 400000 in
theorem implDividedDifference_any (A : Option Addr) (n c : Nat) (ts : List Tm) (i : Int) (w : World) (hs : TS w A n ts) (hn : n ≤ 1099511627776) (hne : ∀ k, k < n → (tm ts k).1.length ≤ 1099511627776) :
    Calls Try.prog 17 #[.slice A n c, .int .i64 i] w fun r w' => FreshTB w w' r (outB (opOk ts i) (ddP ts i)) (outL (opOk ts i) (ddP ts i)) := by
  have HC := Lib.hid (applyDividedDifference_any A n c ts i w hs hn hne)
  obtain ⟨bb, hbb⟩ : ∃ bb, bb = outB (opOk ts i) (ddP ts i) := ⟨_, rfl⟩
  rw [← hbb] at HC ⊢
  clear hs hn hne hbb
  go_enter Try.func17, Try.ntmps17
  go_wp2_with (go_at_call 82; refine HC.out.mono ?_; rintro e w3 ⟨A3, n3, c3, rfl, ho, hb⟩; have HO3 := Lib.hid ho; have HB3 := Lib.hid hb; clear ho hb)
  go_ret2
  exact ⟨A3, n3, c3, rfl, HO3.out, HB3.out⟩
set_option maxRecDepth 100000 in
set_option maxHeartbeats 1000000 in
theorem applyDemazureOf_any (A : Option Addr) (n c : Nat) (ts : List Tm) (i : Int) (w : World) (hs : TS w A n ts) (hn : n ≤ 1099511627776) (hne : ∀ k, k < n → (tm ts k).1.length ≤ 1099511627776) :
    Calls Try.prog 82 #[.slice A n c, .int .i64 i, .func (.func 95) #[] #[]] w fun r w' => FreshTB w w' r (outB (opOk ts i) (deP ts i)) (outL (opOk ts i) (deP ts i)) := by
  have hP := implPolyOk_any A n c ts w hs hn hne
  have hV := fun w => hasPairAt_any i w
  cases hu : polyB ts with
  | false =>
    rw [hu] at hP
    have HE := Lib.hid (outB_no (ok := opOk ts i) (L := deP ts i) (by unfold opOk; rw [hu]; rfl))
    have HP := Lib.hid hP
    clear hP hu hV
    go_enter Try.func82, Try.ntmps82
    go_wp2_with (go_at_call 78; refine HP.out.mono ?_; rintro e w7 ⟨rfl, hd7⟩; have HD7 := Lib.hid hd7; clear hd7)
    go_ret2
    rw [HE.out.1, HE.out.2]
    exact FreshTB.nil_ret HD7.out
  | true =>
    rw [hu] at hP
    by_cases hi : 0 ≤ i ∧ i ≤ 5
    · have HE := Lib.hid (outB_yes (ok := opOk ts i) (L := deP ts i) (by unfold opOk; rw [hu, decide_eq_true hi]; rfl))
      obtain ⟨m, rfl⟩ : ∃ m : Nat, i = m := ⟨i.toNat, by omega⟩
      have hm5 : m < 6 := by omega
      have HALL := Lib.hid (polyB_all' hu hs.1)
      rw [decide_eq_true hi] at hV
      have HP := Lib.hid hP
      have HV := Lib.hid hV
      have HSU := Lib.hid (fun w' (hd : Below w.heap.size w w') => sumOf_any A n c ts 24 w' (hs.below hd (Nat.le_refl _)) hn HALL.out.1 HALL.out.2)
      clear hP hu hV hi hs
      go_enter Try.func82, Try.ntmps82
      go_wp2_with (first
        | (go_at_call 78; refine HP.out.mono ?_; rintro e w7 ⟨rfl, hd7⟩; have HD7 := Lib.hid hd7; clear hd7)
        | (go_at_call 90; refine (HV.out _).mono ?_; rintro e w8 ⟨rfl, rfl⟩)
        | (go_at_call 79; refine (HSU.out _ HD7.out).mono ?_; rintro e w1 ⟨g1, b1, M1, rfl, hs1, _, _, hm1, hc1, hb1⟩
           have HS1 := Lib.hid hs1; have HM1 := Lib.hid hm1; have HC1 := Lib.hid hc1
           have HB1 : Hid (Below w.heap.size w w1) := Lib.hid (HD7.out.trans (hb1.mono HD7.out.size))
           clear hs1 hm1 hc1 hb1)
        | (go_at_call 95; refine (demazure_any g1 b1 M1 m 24 _ HS1.out HC1.out (by omega) hm5).mono ?_; rintro e w2 ⟨g2, b2, M2, rfl, hs2, _, _, hm2, hc2, hb2⟩
           have HS2 := Lib.hid hs2
           have HM2 : Hid (sameC (openM M2) (deP ts (m : Int))) := Lib.hid (hm2.trans (by unfold deP; rw [Int.toNat_natCast]; exact HM1.out.dem m))
           have HB2 : Hid (Below w.heap.size w w2) := Lib.hid (HB1.out.trans (hb2.mono HB1.out.size))
           clear hs2 hm2 hc2 hb2)
        | (go_at_call 81; refine (terms_any g2 b2 M2 (deP ts (m : Int)) _ HS2.out HM2.out).mono ?_; rintro e w3 ⟨A3, n3, c3, rfl, ho, hb⟩
           have HB3 : Hid (Below w.heap.size w w3) := Lib.hid (HB2.out.trans (hb.mono HB2.out.size))
           have HO3 := Lib.hid ho
           have HZ3 := Lib.hid HB2.out.size
           clear ho hb))
      go_ret2
      rw [HE.out.1, HE.out.2]
      exact ⟨A3, n3, c3, rfl, HO3.out.wide HZ3.out (Nat.le_refl _), HB3.out⟩
    · have HE := Lib.hid (outB_no (ok := opOk ts i) (L := deP ts i) (by unfold opOk; rw [decide_eq_false hi, Bool.and_false]))
      rw [decide_eq_false hi] at hV
      have HP := Lib.hid hP
      have HV := Lib.hid hV
      clear hP hu hV hi
      go_enter Try.func82, Try.ntmps82
      go_wp2_with (first
        | (go_at_call 78; refine HP.out.mono ?_; rintro e w7 ⟨rfl, hd7⟩; have HD7 := Lib.hid hd7; clear hd7)
        | (go_at_call 90; refine (HV.out _).mono ?_; rintro e w8 ⟨rfl, rfl⟩))
      go_ret2
      rw [HE.out.1, HE.out.2]
      exact FreshTB.nil_ret HD7.out
set_option maxHeartbeats 400000 in
theorem implDemazureOf_any (A : Option Addr) (n c : Nat) (ts : List Tm) (i : Int) (w : World) (hs : TS w A n ts) (hn : n ≤ 1099511627776) (hne : ∀ k, k < n → (tm ts k).1.length ≤ 1099511627776) :
    Calls Try.prog 26 #[.slice A n c, .int .i64 i] w fun r w' => FreshTB w w' r (outB (opOk ts i) (deP ts i)) (outL (opOk ts i) (deP ts i)) := by
  have HC := Lib.hid (applyDemazureOf_any A n c ts i w hs hn hne)
  obtain ⟨bb, hbb⟩ : ∃ bb, bb = outB (opOk ts i) (deP ts i) := ⟨_, rfl⟩
  rw [← hbb] at HC ⊢
  clear hs hn hne hbb
  go_enter Try.func26, Try.ntmps26
  go_wp2_with (go_at_call 82; refine HC.out.mono ?_; rintro e w3 ⟨A3, n3, c3, rfl, ho, hb⟩; have HO3 := Lib.hid ho; have HB3 := Lib.hid hb; clear ho hb)
  go_ret2
  exact ⟨A3, n3, c3, rfl, HO3.out, HB3.out⟩
set_option maxRecDepth 100000 in
set_option maxHeartbeats 1000000 in
theorem applyAtomOf_any (A : Option Addr) (n c : Nat) (ts : List Tm) (i : Int) (w : World) (hs : TS w A n ts) (hn : n ≤ 1099511627776) (hne : ∀ k, k < n → (tm ts k).1.length ≤ 1099511627776) :
    Calls Try.prog 82 #[.slice A n c, .int .i64 i, .func (.func 96) #[] #[]] w fun r w' => FreshTB w w' r (outB (opOk ts i) (atP ts i)) (outL (opOk ts i) (atP ts i)) := by
  have hP := implPolyOk_any A n c ts w hs hn hne
  have hV := fun w => hasPairAt_any i w
  cases hu : polyB ts with
  | false =>
    rw [hu] at hP
    have HE := Lib.hid (outB_no (ok := opOk ts i) (L := atP ts i) (by unfold opOk; rw [hu]; rfl))
    have HP := Lib.hid hP
    clear hP hu hV
    go_enter Try.func82, Try.ntmps82
    go_wp2_with (go_at_call 78; refine HP.out.mono ?_; rintro e w7 ⟨rfl, hd7⟩; have HD7 := Lib.hid hd7; clear hd7)
    go_ret2
    rw [HE.out.1, HE.out.2]
    exact FreshTB.nil_ret HD7.out
  | true =>
    rw [hu] at hP
    by_cases hi : 0 ≤ i ∧ i ≤ 5
    · have HE := Lib.hid (outB_yes (ok := opOk ts i) (L := atP ts i) (by unfold opOk; rw [hu, decide_eq_true hi]; rfl))
      obtain ⟨m, rfl⟩ : ∃ m : Nat, i = m := ⟨i.toNat, by omega⟩
      have hm5 : m < 6 := by omega
      have HALL := Lib.hid (polyB_all' hu hs.1)
      rw [decide_eq_true hi] at hV
      have HP := Lib.hid hP
      have HV := Lib.hid hV
      have HSU := Lib.hid (fun w' (hd : Below w.heap.size w w') => sumOf_any A n c ts 24 w' (hs.below hd (Nat.le_refl _)) hn HALL.out.1 HALL.out.2)
      clear hP hu hV hi hs
      go_enter Try.func82, Try.ntmps82
      go_wp2_with (first
        | (go_at_call 78; refine HP.out.mono ?_; rintro e w7 ⟨rfl, hd7⟩; have HD7 := Lib.hid hd7; clear hd7)
        | (go_at_call 90; refine (HV.out _).mono ?_; rintro e w8 ⟨rfl, rfl⟩)
        | (go_at_call 79; refine (HSU.out _ HD7.out).mono ?_; rintro e w1 ⟨g1, b1, M1, rfl, hs1, _, _, hm1, hc1, hb1⟩
           have HS1 := Lib.hid hs1; have HM1 := Lib.hid hm1; have HC1 := Lib.hid hc1
           have HB1 : Hid (Below w.heap.size w w1) := Lib.hid (HD7.out.trans (hb1.mono HD7.out.size))
           clear hs1 hm1 hc1 hb1)
        | (go_at_call 96; refine (atom_any g1 b1 M1 m 24 _ HS1.out HC1.out (by omega) hm5).mono ?_; rintro e w2 ⟨g2, b2, M2, rfl, hs2, _, _, hm2, hc2, hb2⟩
           have HS2 := Lib.hid hs2
           have HM2 : Hid (sameC (openM M2) (atP ts (m : Int))) := Lib.hid (hm2.trans (by unfold atP; rw [Int.toNat_natCast]; exact (HM1.out.dem m).app (HM1.out.scale (-1))))
           have HB2 : Hid (Below w.heap.size w w2) := Lib.hid (HB1.out.trans (hb2.mono HB1.out.size))
           clear hs2 hm2 hc2 hb2)
        | (go_at_call 81; refine (terms_any g2 b2 M2 (atP ts (m : Int)) _ HS2.out HM2.out).mono ?_; rintro e w3 ⟨A3, n3, c3, rfl, ho, hb⟩
           have HB3 : Hid (Below w.heap.size w w3) := Lib.hid (HB2.out.trans (hb.mono HB2.out.size))
           have HO3 := Lib.hid ho
           have HZ3 := Lib.hid HB2.out.size
           clear ho hb))
      go_ret2
      rw [HE.out.1, HE.out.2]
      exact ⟨A3, n3, c3, rfl, HO3.out.wide HZ3.out (Nat.le_refl _), HB3.out⟩
    · have HE := Lib.hid (outB_no (ok := opOk ts i) (L := atP ts i) (by unfold opOk; rw [decide_eq_false hi, Bool.and_false]))
      rw [decide_eq_false hi] at hV
      have HP := Lib.hid hP
      have HV := Lib.hid hV
      clear hP hu hV hi
      go_enter Try.func82, Try.ntmps82
      go_wp2_with (first
        | (go_at_call 78; refine HP.out.mono ?_; rintro e w7 ⟨rfl, hd7⟩; have HD7 := Lib.hid hd7; clear hd7)
        | (go_at_call 90; refine (HV.out _).mono ?_; rintro e w8 ⟨rfl, rfl⟩))
      go_ret2
      rw [HE.out.1, HE.out.2]
      exact FreshTB.nil_ret HD7.out
set_option maxHeartbeats 400000 in
theorem implAtomOf_any (A : Option Addr) (n c : Nat) (ts : List Tm) (i : Int) (w : World) (hs : TS w A n ts) (hn : n ≤ 1099511627776) (hne : ∀ k, k < n → (tm ts k).1.length ≤ 1099511627776) :
    Calls Try.prog 27 #[.slice A n c, .int .i64 i] w fun r w' => FreshTB w w' r (outB (opOk ts i) (atP ts i)) (outL (opOk ts i) (atP ts i)) := by
  have HC := Lib.hid (applyAtomOf_any A n c ts i w hs hn hne)
  obtain ⟨bb, hbb⟩ : ∃ bb, bb = outB (opOk ts i) (atP ts i) := ⟨_, rfl⟩
  rw [← hbb] at HC ⊢
  clear hs hn hne hbb
  go_enter Try.func27, Try.ntmps27
  go_wp2_with (go_at_call 82; refine HC.out.mono ?_; rintro e w3 ⟨A3, n3, c3, rfl, ho, hb⟩; have HO3 := Lib.hid ho; have HB3 := Lib.hid hb; clear ho hb)
  go_ret2
  exact ⟨A3, n3, c3, rfl, HO3.out, HB3.out⟩
set_option maxRecDepth 100000 in
set_option maxHeartbeats 1000000 in
theorem applyIsobaricOf_any (A : Option Addr) (n c : Nat) (ts : List Tm) (i : Int) (w : World) (hs : TS w A n ts) (hn : n ≤ 1099511627776) (hne : ∀ k, k < n → (tm ts k).1.length ≤ 1099511627776) :
    Calls Try.prog 82 #[.slice A n c, .int .i64 i, .func (.func 165) #[] #[]] w fun r w' => FreshTB w w' r (outB (opOk ts i) (isP ts i)) (outL (opOk ts i) (isP ts i)) := by
  have hP := implPolyOk_any A n c ts w hs hn hne
  have hV := fun w => hasPairAt_any i w
  cases hu : polyB ts with
  | false =>
    rw [hu] at hP
    have HE := Lib.hid (outB_no (ok := opOk ts i) (L := isP ts i) (by unfold opOk; rw [hu]; rfl))
    have HP := Lib.hid hP
    clear hP hu hV
    go_enter Try.func82, Try.ntmps82
    go_wp2_with (go_at_call 78; refine HP.out.mono ?_; rintro e w7 ⟨rfl, hd7⟩; have HD7 := Lib.hid hd7; clear hd7)
    go_ret2
    rw [HE.out.1, HE.out.2]
    exact FreshTB.nil_ret HD7.out
  | true =>
    rw [hu] at hP
    by_cases hi : 0 ≤ i ∧ i ≤ 5
    · have HE := Lib.hid (outB_yes (ok := opOk ts i) (L := isP ts i) (by unfold opOk; rw [hu, decide_eq_true hi]; rfl))
      obtain ⟨m, rfl⟩ : ∃ m : Nat, i = m := ⟨i.toNat, by omega⟩
      have hm5 : m < 6 := by omega
      have HALL := Lib.hid (polyB_all' hu hs.1)
      rw [decide_eq_true hi] at hV
      have HP := Lib.hid hP
      have HV := Lib.hid hV
      have HSU := Lib.hid (fun w' (hd : Below w.heap.size w w') => sumOf_any A n c ts 24 w' (hs.below hd (Nat.le_refl _)) hn HALL.out.1 HALL.out.2)
      clear hP hu hV hi hs
      go_enter Try.func82, Try.ntmps82
      go_wp2_with (first
        | (go_at_call 78; refine HP.out.mono ?_; rintro e w7 ⟨rfl, hd7⟩; have HD7 := Lib.hid hd7; clear hd7)
        | (go_at_call 90; refine (HV.out _).mono ?_; rintro e w8 ⟨rfl, rfl⟩)
        | (go_at_call 79; refine (HSU.out _ HD7.out).mono ?_; rintro e w1 ⟨g1, b1, M1, rfl, hs1, _, _, hm1, hc1, hb1⟩
           have HS1 := Lib.hid hs1; have HM1 := Lib.hid hm1; have HC1 := Lib.hid hc1
           have HB1 : Hid (Below w.heap.size w w1) := Lib.hid (HD7.out.trans (hb1.mono HD7.out.size))
           clear hs1 hm1 hc1 hb1)
        | (go_at_call 165; refine (isobaric_any g1 b1 M1 m 24 _ HS1.out HC1.out (by omega) hm5).mono ?_; rintro e w2 ⟨g2, b2, M2, rfl, hs2, _, _, hm2, hc2, hb2⟩
           have HS2 := Lib.hid hs2
           have HM2 : Hid (sameC (openM M2) (isP ts (m : Int))) := Lib.hid (hm2.trans (by unfold isP; rw [Int.toNat_natCast]; exact (iso_same m _).trans (((HM1.out).app ((HM1.out.lin _).scale (-1))).lin _)))
           have HB2 : Hid (Below w.heap.size w w2) := Lib.hid (HB1.out.trans (hb2.mono HB1.out.size))
           clear hs2 hm2 hc2 hb2)
        | (go_at_call 81; refine (terms_any g2 b2 M2 (isP ts (m : Int)) _ HS2.out HM2.out).mono ?_; rintro e w3 ⟨A3, n3, c3, rfl, ho, hb⟩
           have HB3 : Hid (Below w.heap.size w w3) := Lib.hid (HB2.out.trans (hb.mono HB2.out.size))
           have HO3 := Lib.hid ho
           have HZ3 := Lib.hid HB2.out.size
           clear ho hb))
      go_ret2
      rw [HE.out.1, HE.out.2]
      exact ⟨A3, n3, c3, rfl, HO3.out.wide HZ3.out (Nat.le_refl _), HB3.out⟩
    · have HE := Lib.hid (outB_no (ok := opOk ts i) (L := isP ts i) (by unfold opOk; rw [decide_eq_false hi, Bool.and_false]))
      rw [decide_eq_false hi] at hV
      have HP := Lib.hid hP
      have HV := Lib.hid hV
      clear hP hu hV hi
      go_enter Try.func82, Try.ntmps82
      go_wp2_with (first
        | (go_at_call 78; refine HP.out.mono ?_; rintro e w7 ⟨rfl, hd7⟩; have HD7 := Lib.hid hd7; clear hd7)
        | (go_at_call 90; refine (HV.out _).mono ?_; rintro e w8 ⟨rfl, rfl⟩))
      go_ret2
      rw [HE.out.1, HE.out.2]
      exact FreshTB.nil_ret HD7.out
set_option maxHeartbeats 400000 in
theorem implIsobaricOf_any (A : Option Addr) (n c : Nat) (ts : List Tm) (i : Int) (w : World) (hs : TS w A n ts) (hn : n ≤ 1099511627776) (hne : ∀ k, k < n → (tm ts k).1.length ≤ 1099511627776) :
    Calls Try.prog 101 #[.slice A n c, .int .i64 i] w fun r w' => FreshTB w w' r (outB (opOk ts i) (isP ts i)) (outL (opOk ts i) (isP ts i)) := by
  have HC := Lib.hid (applyIsobaricOf_any A n c ts i w hs hn hne)
  obtain ⟨bb, hbb⟩ : ∃ bb, bb = outB (opOk ts i) (isP ts i) := ⟨_, rfl⟩
  rw [← hbb] at HC ⊢
  clear hs hn hne hbb
  go_enter Try.func101, Try.ntmps101
  go_wp2_with (go_at_call 82; refine HC.out.mono ?_; rintro e w3 ⟨A3, n3, c3, rfl, ho, hb⟩; have HO3 := Lib.hid ho; have HB3 := Lib.hid hb; clear ho hb)
  go_ret2
  exact ⟨A3, n3, c3, rfl, HO3.out, HB3.out⟩
end Go.Proofs.Ytcoelbfcndeblaa

/-
  Schubert and Grothendieck polynomials on both sides. Conditions: lengths below 2^40.
-/




namespace Go.Proofs.Ytcoelbfcndeblaa
open Go.RowKit

set_option maxRecDepth 100000 in
set_option maxHeartbeats 1000000 in
theorem schubertSum_any (A : Option Addr) (n c : Nat) (xs : List Int) (w : World) (hs : SI w A n xs) (hn : n ≤ 1099511627776) (hp : isPermB xs = true) :
    Calls Try.prog 121 #[.slice A n c] w fun r w' => FreshS w w' r 6 (dscL divL (schE xs)) := by
  have hx := trim_pad (isPermB_P hp)
  have HTR := Lib.hid (implTrim_any A n c xs w hs hn)
  have HST := Lib.hid (schE_trim hp)
  have HX := Lib.hid hx
  have HXL : Hid ((trimPerm xs).length ≤ 7) := Lib.hid (by rw [trimPerm_yes hp, List.length_take]; have := (isPermB_P hp).2.1; omega)
  clear hx hp hs
  go_enter Try.func121, Try.ntmps121
  go_wp2_with (first
    | (go_at_call 42
       refine HTR.out.mono ?_
       rintro e w1 ⟨A1, n1, c1, rfl, ho1, hb1⟩
       have HO1 := Lib.hid ho1
       have HB1 := Lib.hid hb1
       have HN1 : Hid (n1 ≤ 7) := Lib.hid (by rw [← ho1.len]; exact HXL.out)
       clear ho1 hb1)
    | (go_at_call 179
       refine (withZeros_any A1 n1 c1 (trimPerm xs) _ HO1.out.si HN1.out).mono ?_
       rintro e w2 ⟨rfl, hb2⟩
       rw [HST.out]
       have HB2 : Hid (Below w.heap.size w w2) := Lib.hid (HB1.out.trans (hb2.mono HB1.out.size))
       clear hb2)
    | (go_at_call 178
       refine (descend_div 6 2668 (schE xs) _ HX.out.1 HX.out.2 (by have := (swU_cases HX.out.1 (k := 0) (by omega)).2.2.2; show mu7 (padN 7 _) < _; omega) (by decide)).mono ?_
       rintro e w3 ⟨g3, b3, M3, rfl, hs3, hg3, hb3, hm3, hc3, hl3⟩
       have HS3 := Lib.hid hs3
       have HM3 := Lib.hid hm3
       have HC3 := Lib.hid hc3
       have HG3 : Hid (w.heap.size ≤ g3 ∧ w.heap.size ≤ b3) := Lib.hid ⟨Nat.le_trans HB2.out.size hg3, Nat.le_trans HB2.out.size hb3⟩
       have HB3 : Hid (Below w.heap.size w w3) := Lib.hid (HB2.out.trans (hl3.mono HB2.out.size))
       clear hs3 hg3 hb3 hm3 hc3 hl3)
    | go_in)
  go_ret
  exact ⟨g3, b3, M3, rfl, HS3.out, HG3.out.1, HG3.out.2, HM3.out, HC3.out, HB3.out⟩
end Go.Proofs.Ytcoelbfcndeblaa

/-
  The order of lists: number by number, what stands first is less. Conditions: lengths below 2^40.
-/

namespace Go.Proofs.Ytcoelbfcndeblaa
open Go.RowKit

/-- What comparing two lists answers. -/
def cmpL : List Int → List Int → Int
  | [], [] => 0
  | [], _ :: _ => -1
  | _ :: _, [] => 1
  | x :: xs, y :: ys => if x < y then -1 else if y < x then 1 else cmpL xs ys
theorem drop_nth {xs : List Int} {k : Nat} (h : k < xs.length) : xs.drop k = nth xs k :: xs.drop (k + 1) := by
  rw [List.drop_eq_getElem_cons h, nth_get h]
theorem cmpL_at {xs ys : List Int} {k : Nat} (hx : k < xs.length) (hy : k < ys.length) : cmpL (xs.drop k) (ys.drop k) = if nth xs k < nth ys k then -1 else if nth ys k < nth xs k then 1 else cmpL (xs.drop (k + 1)) (ys.drop (k + 1)) := by
  rw [drop_nth hx, drop_nth hy]; rfl
theorem cmpL_short {xs ys : List Int} {k : Nat} (hx : k = xs.length) (hy : k < ys.length) : cmpL (xs.drop k) (ys.drop k) = -1 := by
  rw [drop_nth hy, List.drop_of_length_le (by omega)]; rfl
theorem cmpL_long {xs ys : List Int} {k : Nat} (hx : k < xs.length) (hy : k = ys.length) : cmpL (xs.drop k) (ys.drop k) = 1 := by
  rw [drop_nth hx, List.drop_of_length_le (by omega : ys.length ≤ k)]; rfl
theorem cmpL_end {xs ys : List Int} {k : Nat} (hx : k = xs.length) (hy : k = ys.length) : cmpL (xs.drop k) (ys.drop k) = 0 := by
  rw [List.drop_of_length_le (by omega), List.drop_of_length_le (by omega)]; rfl
def lessL (xs ys : List Int) : Bool := decide (cmpL xs ys < 0)
theorem lessL_yes {xs ys : List Int} (h : cmpL xs ys = -1) : lessL xs ys = true := by simp [lessL, h]
theorem lessL_no {xs ys : List Int} (h : 0 ≤ cmpL xs ys) : lessL xs ys = false := by simp [lessL]; exact h

set_option maxHeartbeats 1600000 in
theorem l1Less_any (A A2 : Option Addr) (n c n2 c2 : Nat) (xs ys : List Int) (w : World) (hs : SI w A n xs) (hs2 : SI w A2 n2 ys) (hn : n ≤ 1099511627776) (hn2 : n2 ≤ 1099511627776) :
    Calls Try.prog 174 #[.slice A n c, .slice A2 n2 c2] w fun e w' => e = .returned (.bool (lessL xs ys)) ∧ Drawn w w' := by
  have HL := Lib.hid (And.intro hs.1 hs2.1)
  go_enter Try.func174, Try.ntmps174
  go_wp2
  go_loopw [5] (fun iv wr => ∃ k : Nat, k ≤ n ∧ k ≤ n2 ∧ iv = .int .i64 k ∧ Drawn w wr ∧ cmpL xs ys = cmpL (xs.drop k) (ys.drop k))
    (fun iv _ => n - (intOf iv).toNat)
  case atStart => exact ⟨0, Nat.zero_le _, Nat.zero_le _, rfl, Drawn.refl _, by simp⟩
  case round =>
    obtain ⟨k, hk, hk2, rfl, hD, hq⟩ := hrel
    have HD := Lib.hid hD
    have HQ := Lib.hid hq
    have h1 := hD.si hs
    have h2 := hD.si hs2
    clear hD hq hs hs2
    by_cases hlt : k < n
    · have hlI : (k : Int) < (n : Int) := by omega
      by_cases hlt2 : k < n2
      · have hlI2 : (k : Int) < (n2 : Int) := by omega
        obtain ⟨b, o, rfl, _, hc⟩ := h1.at_ (by omega)
        obtain ⟨b2, o2, rfl, _, hc2⟩ := h2.at_ (by omega)
        have hx := hc k hlt
        have hy := hc2 k hlt2
        have HS := cmpL_at (xs := xs) (ys := ys) (k := k) (by have := HL.out; omega) (by have := HL.out; omega)
        obtain ⟨x, hx0⟩ : ∃ x, x = nth xs k := ⟨_, rfl⟩
        obtain ⟨y, hy0⟩ : ∃ y, y = nth ys k := ⟨_, rfl⟩
        rw [← hx0] at hx HS
        rw [← hy0] at hy HS
        rw [← HQ.out] at HS
        have HS := Lib.hid HS
        clear h1 h2 hc hc2 hx0 hy0
        by_cases hxy : x = y
        · subst hxy
          have HS2 := Lib.hid (HS.out.trans ((if_neg (by omega)).trans (if_neg (by omega))))
          go_wp2_with fail
          go_quiet (fail)
          go_wp2
          go_roundw
          case rel => exact ⟨k + 1, by omega, by omega, by go_num, HD.out.drewN _, HS2.out⟩
          case measure => simp [intOf]; omega
        · have hne : (x != y) = true := by simpa using hxy
          by_cases hlt3 : x < y
          · have HF := Lib.hid (lessL_yes (HS.out.trans (if_pos hlt3)))
            go_wp2_with fail
            go_quiet (fail)
            go_wp2_with fail
            go_quiet (fail)
            go_wp2
            go_ret
            exact ⟨ret_bool HF.out.symm, by first | exact (HD.out.drewN _).drewN _ | exact HD.out.drewN _⟩
          · have HF := Lib.hid (lessL_no (Int.le_of_eq (HS.out.trans ((if_neg hlt3).trans (if_pos (by omega)))).symm |> Int.le_trans (by decide)))
            go_wp2_with fail
            go_quiet (fail)
            go_wp2_with fail
            have hlt4 : ¬ x < y := by omega
            go_quiet (fail)
            go_wp2
            go_ret
            exact ⟨ret_bool HF.out.symm, by first | exact (HD.out.drewN _).drewN _ | exact HD.out.drewN _⟩
      · have hk2n : k = n2 := by omega
        have hlI2 : ¬ (k : Int) < (n2 : Int) := by omega
        have hn2n : ¬ (n : Int) < (n2 : Int) := by omega
        have HF := Lib.hid (lessL_no (by rw [HQ.out, cmpL_long (by have := HL.out; omega) (by have := HL.out; omega)]; decide))
        clear h1 h2
        go_wp2
        go_ret
        exact ⟨ret_bool HF.out.symm, HD.out⟩
    · have hkn : k = n := by omega
      have hlI : ¬ (k : Int) < (n : Int) := by omega
      clear h1 h2
      by_cases hlt2 : n < n2
      · have hn2n : (n : Int) < (n2 : Int) := by omega
        have HF := Lib.hid (lessL_yes (by rw [HQ.out, cmpL_short (by have := HL.out; omega) (by have := HL.out; omega)]))
        go_wp2
        go_ret
        exact ⟨ret_bool HF.out.symm, HD.out⟩
      · have hn2n : ¬ (n : Int) < (n2 : Int) := by omega
        have HF := Lib.hid (lessL_no (by rw [HQ.out, cmpL_end (by have := HL.out; omega) (by have := HL.out; omega)]; decide))
        go_wp2
        go_ret
        exact ⟨ret_bool HF.out.symm, HD.out⟩

set_option maxHeartbeats 1600000 in
theorem sliceCompare_any (A A2 : Option Addr) (n c n2 c2 : Nat) (xs ys : List Int) (w : World) (hs : SI w A n xs) (hs2 : SI w A2 n2 ys) (hn : n ≤ 1099511627776) (hn2 : n2 ≤ 1099511627776) :
    Calls Try.prog 134 #[.slice A n c, .slice A2 n2 c2] w fun e w' => e = .returned (.int .i64 (cmpL xs ys)) ∧ Drawn w w' := by
  have HL := Lib.hid (And.intro hs.1 hs2.1)
  go_enter Try.func134, Try.ntmps134
  go_wp2
  go_loopw [11] (fun iv wr => ∃ k : Nat, k ≤ n ∧ k ≤ n2 ∧ iv = .int .i64 k ∧ Drawn w wr ∧ cmpL xs ys = cmpL (xs.drop k) (ys.drop k))
    (fun iv _ => n - (intOf iv).toNat)
  case atStart => exact ⟨0, Nat.zero_le _, Nat.zero_le _, rfl, Drawn.refl _, by simp⟩
  case round =>
    obtain ⟨k, hk, hk2, rfl, hD, hq⟩ := hrel
    have HD := Lib.hid hD
    have HQ := Lib.hid hq
    have h1 := hD.si hs
    have h2 := hD.si hs2
    clear hD hq hs hs2
    by_cases hlt : k < n
    · have hlI : (k : Int) < (n : Int) := by omega
      obtain ⟨b, o, rfl, _, hc⟩ := h1.at_ (by omega)
      have hx := hc k hlt
      obtain ⟨x, hx0⟩ : ∃ x, x = nth xs k := ⟨_, rfl⟩
      rw [← hx0] at hx
      by_cases hlt2 : k < n2
      · have hlI2 : (k : Int) < (n2 : Int) := by omega
        obtain ⟨b2, o2, rfl, _, hc2⟩ := h2.at_ (by omega)
        have hy := hc2 k hlt2
        have HS := cmpL_at (xs := xs) (ys := ys) (k := k) (by have := HL.out; omega) (by have := HL.out; omega)
        obtain ⟨y, hy0⟩ : ∃ y, y = nth ys k := ⟨_, rfl⟩
        rw [← hx0] at HS
        rw [← hy0] at hy HS
        rw [← HQ.out] at HS
        have HS := Lib.hid HS
        have HC := Lib.hid (fun w => compare_any x y w)
        clear h1 h2 hc hc2 hx0 hy0
        by_cases hlt3 : x < y
        · have HF := Lib.hid (HS.out.trans (if_pos hlt3))
          have HC2 := HC.out
          rw [show cmpI x y = -1 from if_pos hlt3] at HC2
          have HC3 := Lib.hid HC2
          clear HC2 HC
          go_wp2_with (go_at_call 144; refine (HC3.out _).mono ?_; rintro e w1 ⟨rfl, rfl⟩)
          go_ret
          exact ⟨by rw [HF.out]; try rfl, HD.out⟩
        · by_cases hlt4 : y < x
          · have HF := Lib.hid (HS.out.trans ((if_neg hlt3).trans (if_pos hlt4)))
            have HC2 := HC.out
            rw [show cmpI x y = 1 from (if_neg hlt3).trans (if_pos hlt4)] at HC2
            have HC3 := Lib.hid HC2
            clear HC2 HC
            go_wp2_with (go_at_call 144; refine (HC3.out _).mono ?_; rintro e w1 ⟨rfl, rfl⟩)
            go_ret
            exact ⟨by rw [HF.out]; try rfl, HD.out⟩
          · have HF := Lib.hid (HS.out.trans ((if_neg hlt3).trans (if_neg hlt4)))
            have HC2 := HC.out
            rw [show cmpI x y = 0 from (if_neg hlt3).trans (if_neg hlt4)] at HC2
            have HC3 := Lib.hid HC2
            clear HC2 HC
            go_wp2_with (go_at_call 144; refine (HC3.out _).mono ?_; rintro e w1 ⟨rfl, rfl⟩)
            go_roundw
            case rel => exact ⟨k + 1, by omega, by omega, by go_num, HD.out, HF.out⟩
            case measure => simp [intOf]; omega
      · have hk2n : k = n2 := by omega
        subst hk2n
        have HF : Hid (cmpL xs ys = 1) := Lib.hid (by rw [HQ.out, cmpL_long (by have := HL.out; omega) (by have := HL.out; omega)])
        clear h1 h2 hc hx0
        go_wp2
        go_ret
        exact ⟨by rw [HF.out]; try rfl, HD.out⟩
    · have hkn : k = n := by omega
      have hlI : ¬ (k : Int) < (n : Int) := by omega
      clear h1 h2
      by_cases hlt2 : n < n2
      · have hn2n : (n : Int) < (n2 : Int) := by omega
        have HF : Hid (cmpL xs ys = -1) := Lib.hid (by rw [HQ.out, cmpL_short (by have := HL.out; omega) (by have := HL.out; omega)])
        go_wp2
        go_ret
        exact ⟨by rw [HF.out]; try rfl, HD.out⟩
      · have hn2n : ¬ (n : Int) < (n2 : Int) := by omega
        have HF : Hid (cmpL xs ys = 0) := Lib.hid (by rw [HQ.out, cmpL_end (by have := HL.out; omega) (by have := HL.out; omega)])
        go_wp2
        go_ret
        exact ⟨by rw [HF.out]; try rfl, HD.out⟩
end Go.Proofs.Ytcoelbfcndeblaa

/-
  What a list of classes is, and comparing two. Conditions: lengths below 2^40.
-/


namespace Go.Proofs.Ytcoelbfcndeblaa
open Go.RowKit

def classAt (ts : List Tm) (k : Nat) : Prop := isPermB (tm ts k).1 = true ∧ trimN (tm ts k).1 (tm ts k).1.length = (tm ts k).1.length ∧ ((tm ts k).2 ≠ 0 ∧ -1000000 ≤ (tm ts k).2 ∧ (tm ts k).2 ≤ 1000000) ∧ (0 < k → lessL (tm ts (k - 1)).1 (tm ts k).1 = true)
instance (ts : List Tm) (k : Nat) : Decidable (classAt ts k) := by unfold classAt; infer_instance
def classesB (ts : List Tm) : Bool := decide (ts.length ≤ 100) && (List.range ts.length).all fun k => decide (classAt ts k)
theorem classesB_iff (ts : List Tm) : classesB ts = true ↔ ts.length ≤ 100 ∧ ∀ k, k < ts.length → classAt ts k := by simp [classesB]
theorem classesB_yes {ts : List Tm} (h0 : ts.length ≤ 100) (h : ∀ k, k < ts.length → classAt ts k) : classesB ts = true := (classesB_iff ts).2 ⟨h0, h⟩
theorem classesB_no {ts : List Tm} {k : Nat} (hk : k < ts.length) (h : ¬ classAt ts k) : classesB ts = false := by
  cases hb : classesB ts with
  | false => rfl
  | true => exact absurd (((classesB_iff ts).1 hb).2 k hk) h
theorem classesB_big {ts : List Tm} (h : 100 < ts.length) : classesB ts = false := by
  cases hb : classesB ts with
  | false => rfl
  | true => have := ((classesB_iff ts).1 hb).1; omega

set_option maxHeartbeats 1600000 in
theorem compareClasses_any (A A2 : Option Addr) (n c n2 c2 : Nat) (xs ys : List Int) (x y : Int) (w : World) (hs : SI w A n xs) (hs2 : SI w A2 n2 ys) (hn : n ≤ 1099511627776) (hn2 : n2 ≤ 1099511627776) :
    Calls Try.prog 131 #[.agg #[.slice A n c, .int .i64 x], .agg #[.slice A2 n2 c2, .int .i64 y]] w fun e w' => e = .returned (.int .i64 (cmpL xs ys)) ∧ Below w.heap.size w w' := by
  have HC := Lib.hid (fun (w1 : World) (hb : Below w.heap.size w w1) => sliceCompare_any A A2 n c n2 c2 xs ys w1 (hs.below hb (Nat.le_refl _)) (hs2.below hb (Nat.le_refl _)) hn hn2)
  clear hs hs2
  go_enter Try.func131, Try.ntmps131
  go_wp2_with (go_at_call 134; refine (HC.out _ (by go_grown)).mono ?_; rintro e w1 ⟨rfl, hd⟩; have HD := Lib.hid hd; clear hd)
  go_ret
  exact ⟨rfl, Below.trans (by go_grown) (HD.out.below _)⟩

end Go.Proofs.Ytcoelbfcndeblaa

/-
  TermMem, for values of type Class instead of terms (made by wip/gen/gen_cls.py). Conditions: lengths below 2^40.
-/



namespace Go.Proofs.Ytcoelbfcndeblaa.Cls
open Go.RowKit
section
variable {w w' : World} {A : Option Addr} {n : Nat} {ts : List Tm}
end

/-- The slice (A, n, c) holds the terms ts: its block, and a block for the exponents of each term, all the call's own between lo and hi, no two of them one. -/
def OwnTC (w : World) (lo hi : Nat) (A : Option Addr) (n c : Nat) (ts : List Tm) : Prop :=
  ∃ E : Nat → Sv, ts.length = n ∧ w.ownsRow lo 118 2 (.slice A n c) n (cells2 n fun k => (sv (E k), .int .i64 (tm ts k).2)) ∧ (∀ k, (Value.slice A n c).ownBlock = some k → k < hi) ∧
    (∀ j, j < n → Own w lo hi (E j).1 (E j).2.1 (E j).2.2 (tm ts j).1) ∧ (∀ j g, j < n → (sv (E j)).ownBlock = some g → (Value.slice A n c).ownBlock ≠ some g) ∧
    (∀ i j g, i < j → j < n → (sv (E i)).ownBlock = some g → (sv (E j)).ownBlock ≠ some g)
section
variable {w w' : World} {lo hi n c : Nat} {A : Option Addr} {ts : List Tm}
theorem OwnTC.len (h : OwnTC w lo hi A n c ts) : ts.length = n := by obtain ⟨_, h1, _⟩ := h; exact h1
theorem OwnTC.nil (w : World) (lo hi : Nat) : OwnTC w lo hi none 0 0 [] :=
  ⟨fun _ => (none, 0, 0), rfl, by simpa [cells2] using World.ownsRow_nil _ _ _ _, fun k hk => by simp [Value.ownBlock] at hk, fun j hj => absurd hj (by omega), fun j g hj => absurd hj (by omega), fun i j g _ hj => absurd hj (by omega)⟩
theorem OwnTC.place (h : OwnTC w lo hi A n c ts) (hn : 0 < n) : ∃ g, A = some ⟨g, 0, none⟩ ∧ lo ≤ g ∧ g < hi := by
  obtain ⟨E, _, ho, hh, _⟩ := h
  obtain ⟨g, cap, e, h1, _⟩ := ho.form hn
  have hA : A = some ⟨g, 0, none⟩ := by injection e
  subst hA
  exact ⟨g, rfl, h1, hh g rfl⟩
theorem OwnTC.rd (h : OwnTC w lo hi A n c ts) : TS w A n ts := by
  refine ⟨h.len, fun hn => ?_⟩
  obtain ⟨g, rfl, _, _⟩ := h.place hn
  obtain ⟨E, hl, ho, hh, he, _⟩ := h
  refine ⟨g, 0, rfl, ?_, fun k hk => ?_⟩
  · obtain ⟨g', cap, e, _, h2⟩ := ho.form hn
    injection e with e1; injection e1 with e1; injection e1 with e1
    subst e1; exact h2
  · refine ⟨(E k).1, (E k).2.1, (E k).2.2, ?_, ?_, (he k hk).si, (he k hk).cap, ?_⟩
    · rw [Nat.zero_add, ho.cellAt (k * 2) (by omega), cells2_get0 _ hk]; rfl
    · rw [Nat.zero_add, ho.cellAt (k * 2 + 1) (by omega), cells2_get1 _ hk]
    · intro e
      have := he k hk
      rw [e] at this
      exact this.nilcap
theorem OwnTC.si (h : OwnTC w lo hi A n c ts) : TS w A n ts := h.rd
theorem OwnTC.below {B : Nat} (h : OwnTC w lo hi A n c ts) (hb : Below B w w') (hB : hi ≤ B) : OwnTC w' lo hi A n c ts := by
  obtain ⟨E, h1, h2, h3, h4, h5, h6⟩ := h
  refine ⟨E, h1, ⟨h2.1, ?_⟩, h3, fun j hj => (h4 j hj).below hb hB, h5, h6⟩
  rcases h2.2 with hn | ⟨g, cap, cur, e, hl, hg, rest⟩
  · exact .inl hn
  · have hlt := h3 g (by rw [e]; rfl)
    exact .inr ⟨g, cap, cur, e, hl, (hb.block g (by omega)).trans hg, rest⟩
theorem OwnTC.drawn (h : OwnTC w lo hi A n c ts) (hd : Drawn w w') : OwnTC w' lo hi A n c ts := h.below (hd.below hi) (Nat.le_refl _)
theorem OwnTC.cap (h : OwnTC w lo hi A n c ts) : n ≤ c := by
  obtain ⟨E, _, h2, _⟩ := h
  rcases h2.2 with ⟨e, h0⟩ | ⟨g, cap, cur, e, _, _, hc, _⟩
  · omega
  · injection e with _ _ e3; omega
end
theorem OwnTC.within {w w' : World} {lo hi n c lo' hi' : Nat} {A : Option Addr} {ts : List Tm} (h : OwnTC w lo hi A n c ts) (hw : Within lo' hi' w w') (hd : hi ≤ lo' ∨ hi' ≤ lo) : OwnTC w' lo hi A n c ts := by
  obtain ⟨E, h1, h2, h3, h4, h5, h6⟩ := h
  refine ⟨E, h1, ⟨h2.1, ?_⟩, h3, fun j hj => (h4 j hj).within hw hd, h5, h6⟩
  rcases h2.2 with hn | ⟨g, cap, cur, e, hl, hg, rest⟩
  · exact .inl hn
  · have hlt := h3 g (by rw [e]; rfl)
    have hsz := (h2.lt g (by rw [e]; rfl)).2
    exact .inr ⟨g, cap, cur, e, hl, (hw.2.2.2.2 g hsz (by omega)).trans hg, rest⟩
/-- What a call that makes a slice of terms hands back. -/
def FreshTC (w w' : World) (e : Ending) (ts : List Tm) : Prop :=
  ∃ A n c, e = .returned (.slice A n c) ∧ OwnTC w' w.heap.size w'.heap.size A n c ts ∧ Below w.heap.size w w'

theorem row_eqC {w : World} {lo : Nat} {v : Value} {n : Nat} {xs ys : List Value} (h : w.ownsRow lo 118 2 v n xs) (e : xs = ys) : w.ownsRow lo 118 2 v n ys := e ▸ h
/-- One term stored: its exponents lie in a newer block of the call's own. -/
theorem OwnTC.put {w : World} {lo hi g n c : Nat} {ts : List Tm} (h : OwnTC w lo hi (some ⟨g, 0, none⟩) n c ts) {k : Nat} (hk : k < n) {lo' hi' n' c' : Nat} {A' : Option Addr} {xs : List Int} (hx : Own w lo' hi' A' n' c' xs)
    (h1 : hi ≤ lo') (h2 : lo ≤ lo') (h3 : hi ≤ hi') (x : Int) :
    OwnTC ((w.setCell ⟨g, k * 2, none⟩ (.slice A' n' c')).setCell ⟨g, k * 2 + 1, none⟩ (.int .i64 x)) lo hi' (some ⟨g, 0, none⟩) n c (ts.set k (xs, x)) ∧
      w.grownBy ((w.setCell ⟨g, k * 2, none⟩ (.slice A' n' c')).setCell ⟨g, k * 2 + 1, none⟩ (.int .i64 x)) (some g) := by
  obtain ⟨E, hl, ho, hh, he, hne, hdd⟩ := h
  have hgl := hh g rfl
  obtain ⟨o1, g1⟩ := ho.stored (k * 2) (.slice A' n' c')
  obtain ⟨o2, g2⟩ := o1.stored (k * 2 + 1) (.int .i64 x)
  have gg := g1.trans g2
  refine ⟨⟨fun j => if j = k then (A', n', c') else E j, by simpa using hl, ?_, fun b hb => by have := hh b hb; omega, fun j hj => ?_, fun j b hj hb => ?_, fun i j b hij hj hb => ?_⟩, gg⟩
  · rw [cells2_set0 _ hk, cells2_set1 _ hk] at o2
    refine row_eqC o2 ?_
    apply cells2_congr
    intro j hj
    dsimp only
    rw [tm_set (by omega)]
    by_cases e : j = k
    · subst e; simp [sv]
    · simp [e]
  · dsimp only
    rw [tm_set (by omega)]
    by_cases e : j = k
    · rw [if_pos e, if_pos e]
      exact (hx.grown gg (fun b hb => .inl (by injection hb with hb; omega))).wide h2 (Nat.le_refl _)
    · rw [if_neg e, if_neg e]
      exact ((he j hj).kept gg (fun b hb => hne j b hj hb)).wide (Nat.le_refl _) h3
  · dsimp only at hb
    by_cases e : j = k
    · rw [if_pos e] at hb
      have := hx.lt b hb
      intro e2; injection e2 with e2; dsimp only at e2; omega
    · rw [if_neg e] at hb
      exact hne j b hj hb
  · dsimp only at hb ⊢
    by_cases e : i = k
    · rw [if_pos e] at hb
      rw [if_neg (by omega)]
      intro e2
      have := hx.lt b hb
      have := (he j hj).2 b e2
      omega
    · rw [if_neg e] at hb
      by_cases e' : j = k
      · rw [if_pos e']
        intro e2
        have := hx.lt b e2
        have := (he i (by omega)).2 b hb
        omega
      · rw [if_neg e']
        exact hdd i j b hij hj hb
/-- Only the number of a term stored. -/
theorem OwnTC.put2 {w : World} {lo hi g n c : Nat} {ts : List Tm} (h : OwnTC w lo hi (some ⟨g, 0, none⟩) n c ts) {k : Nat} (hk : k < n) (x : Int) :
    OwnTC (w.setCell ⟨g, k * 2 + 1, none⟩ (.int .i64 x)) lo hi (some ⟨g, 0, none⟩) n c (ts.set k ((tm ts k).1, x)) ∧ w.grownBy (w.setCell ⟨g, k * 2 + 1, none⟩ (.int .i64 x)) (some g) := by
  obtain ⟨E, hl, ho, hh, he, hne, hdd⟩ := h
  obtain ⟨o2, gg⟩ := ho.stored (k * 2 + 1) (.int .i64 x)
  refine ⟨⟨E, by simpa using hl, ?_, hh, fun j hj => ?_, hne, hdd⟩, gg⟩
  · rw [cells2_set1 _ hk] at o2
    refine row_eqC o2 ?_
    apply cells2_congr
    intro j hj
    dsimp only
    rw [tm_set (by omega)]
    by_cases e : j = k
    · subst e; simp
    · simp [e]
  · rw [tm_set (by omega)]
    have := (he j hj).kept gg (fun b hb => hne j b hj hb)
    by_cases e : j = k
    · subst e; rw [if_pos rfl]; exact this
    · rw [if_neg e]; exact this
/-- The exponents of one term, at its place. -/
theorem OwnTC.exp {w : World} {lo hi g n c : Nat} {ts : List Tm} (h : OwnTC w lo hi (some ⟨g, 0, none⟩) n c ts) {k : Nat} (hk : k < n) :
    ∃ A' n' c', w.cell? ⟨g, k * 2, none⟩ = some (.slice A' n' c') ∧ w.cell? ⟨g, k * 2 + 1, none⟩ = some (.int .i64 (tm ts k).2) ∧ (∀ j, w.frozen? ⟨g, j, none⟩ = false) ∧ Own w lo hi A' n' c' (tm ts k).1 ∧
      ∀ w' ys, Own w' lo hi A' n' c' ys → w.grownBy w' (Value.slice A' n' c').ownBlock → OwnTC w' lo hi (some ⟨g, 0, none⟩) n c (ts.set k (ys, (tm ts k).2)) := by
  obtain ⟨E, hl, ho, hh, he, hne, hdd⟩ := h
  refine ⟨(E k).1, (E k).2.1, (E k).2.2, ?_, ?_, fun j => ho.frozenAt j, he k hk, ?_⟩
  · rw [ho.cellAt (k * 2) (by omega), cells2_get0 _ hk]; rfl
  · rw [ho.cellAt (k * 2 + 1) (by omega), cells2_get1 _ hk]
  · intro w' ys hy hg
    refine ⟨E, by simpa using hl, ?_, hh, fun j hj => ?_, hne, hdd⟩
    · have o2 := ho.kept hg (.inr fun e => hne k g hk e.symm rfl)
      refine row_eqC o2 ?_
      apply cells2_congr
      intro j hj
      rw [tm_set (by omega)]
      by_cases e : j = k
      · subst e; simp
      · simp [e]
    · rw [tm_set (by omega)]
      by_cases e : j = k
      · subst e; rw [if_pos rfl]; exact hy
      · rw [if_neg e]
        refine (he j hj).kept hg (fun b hb e2 => ?_)
        rcases Nat.lt_or_ge j k with h | h
        · exact hdd j k b h hk hb e2
        · exact hdd k j b (by omega) hj e2 hb
theorem OwnTC.zeros {w : World} {lo g n c : Nat} (h : w.ownsRow lo 118 2 (.slice (some ⟨g, 0, none⟩) n c) n (madeCells #[.slice none 0 0, .int .i64 0] (n * 2)).toList) (hg : g < w.heap.size) : OwnTC w lo w.heap.size (some ⟨g, 0, none⟩) n c (zeroT n) := by
  refine ⟨fun _ => (none, 0, 0), by simp [zeroT], ?_, fun b hb => by simp [Value.ownBlock] at hb; omega, fun j hj => ?_, fun j b hj hb => by simp [sv, Value.ownBlock] at hb, fun i j b _ hj hb => by simp [sv, Value.ownBlock] at hb⟩
  · refine row_eqC h ?_
    apply List.ext_getElem?
    intro j
    by_cases hj : j < n * 2
    · rw [cells2_get _ hj, zeroT_tm]
      rcases Nat.mod_two_eq_zero_or_one j with e | e
      · simp [madeCells, hj, e, sv]
      · simp [madeCells, hj, e]
    · rw [List.getElem?_eq_none (by simp [madeCells]; omega), List.getElem?_eq_none (by rw [cells2_len]; omega)]
  · rw [zeroT_tm]; exact Own.nil _ _ _
end Go.Proofs.Ytcoelbfcndeblaa.Cls

/-
  TermHelp, for values of type Class instead of terms (made by wip/gen/gen_cls.py). Conditions: lengths below 2^40.
-/


namespace Go.Proofs.Ytcoelbfcndeblaa.Cls
open Go.RowKit
theorem Try.infoTermC : (Try.prog.info? 118).map (·.size) = some 2 := by kernel_rfl
theorem Try.infoTermLC : (Try.prog.info? 115).map (·.size) = some 2 := by kernel_rfl

set_option maxHeartbeats 400000 in
theorem toTerm_anyC (A : Option Addr) (n c : Nat) (xs : List Int) (x : Int) (w : World) (hs : SI w A n xs) (hn : n ≤ 1099511627776) :
    Calls Try.prog 118 #[.agg #[.slice A n c, .int .i64 x]] w fun e w' => ∃ A' n' c', e = .returned (.agg #[.slice A' n' c', .int .i64 x]) ∧ Own w' w.heap.size w'.heap.size A' n' c' xs ∧ Below w.heap.size w w' := by
  go_enter Try.func118, Try.ntmps118
  go_wp2_with fail
  obtain ⟨g1, hg1⟩ : ∃ g1, g1 = w.heap.size := ⟨_, rfl⟩
  have hK1 : Blk (((w.alloc (.cells #[.slice A n c, .int .i64 x] 115)).alloc (.cells #[.slice none 0 0, .int .i64 0] 118)).alloc (.cells #[.slice none 0 0, .int .i64 0] 118)) g1 115 #[.slice A n c, .int .i64 x] := by rw [hg1]; exact ((Blk.new w _ _).alloc _).alloc _
  have hK2 : Blk (((w.alloc (.cells #[.slice A n c, .int .i64 x] 115)).alloc (.cells #[.slice none 0 0, .int .i64 0] 118)).alloc (.cells #[.slice none 0 0, .int .i64 0] 118)) (w.heap.size + 1) 118 #[.slice none 0 0, .int .i64 0] := by
    have := (Blk.new (w.alloc (.cells #[.slice A n c, .int .i64 x] 115)) 118 #[.slice none 0 0, .int .i64 0]).alloc (.cells #[.slice none 0 0, .int .i64 0] 118)
    simpa using this
  have hK3 : Blk (((w.alloc (.cells #[.slice A n c, .int .i64 x] 115)).alloc (.cells #[.slice none 0 0, .int .i64 0] 118)).alloc (.cells #[.slice none 0 0, .int .i64 0] 118)) (w.heap.size + 1 + 1) 118 #[.slice none 0 0, .int .i64 0] := by
    have := (Blk.new ((w.alloc (.cells #[.slice A n c, .int .i64 x] 115)).alloc (.cells #[.slice none 0 0, .int .i64 0] 118)) 118 #[.slice none 0 0, .int .i64 0])
    simpa using this
  have hb3 : Below w.heap.size w (((w.alloc (.cells #[.slice A n c, .int .i64 x] 115)).alloc (.cells #[.slice none 0 0, .int .i64 0] 118)).alloc (.cells #[.slice none 0 0, .int .i64 0] 118)) := by go_grown
  have hs3 := hs.below hb3 (Nat.le_refl _)
  generalize (((w.alloc (.cells #[.slice A n c, .int .i64 x] 115)).alloc (.cells #[.slice none 0 0, .int .i64 0] 118)).alloc (.cells #[.slice none 0 0, .int .i64 0] 118)) = w3 at *
  rw [← hg1] at hK2 hK3 ⊢
  refine (toIntS_fr _ _ _ xs _ hs3 hn).mono ?_
  rintro e w4 ⟨A4, n4, c4, rfl, ho, hb4⟩
  have hL3 := hK3.lt
  have hb : Below w.heap.size w w4 := hb3.trans (hb4.mono hb3.size)
  have HO := Lib.hid ho
  have HB := Lib.hid hb
  have K1 := hK1.below hb4 hK1.lt
  have K2 := hK2.below hb4 hK2.lt
  have K3 := hK3.below hb4 hK3.lt
  have hc1 : w4.cell? ⟨g1, 1, none⟩ = some (.int .i64 x) := K1.cell 1
  have hc3 : w4.cell? ⟨g1 + 1 + 1, 0, none⟩ = some (.slice none 0 0) := K3.cell 0
  have hf3 := K3.frozen 0
  have hc4 : w4.cell? ⟨g1 + 1 + 1, 1, none⟩ = some (.int .i64 0) := K3.cell 1
  have hf4 := K3.frozen 1
  have hc5 : w4.cell? ⟨g1 + 1, 0, none⟩ = some (.slice none 0 0) := K2.cell 0
  have hf5 := K2.frozen 0
  have hc6 : w4.cell? ⟨g1 + 1, 1, none⟩ = some (.int .i64 0) := K2.cell 1
  have hf6 := K2.frozen 1
  have H2 := Lib.hid K2
  have HG := Lib.hid hg1
  have HL := Lib.hid hL3
  clear ho hb K1 K2 K3 hK1 hK2 hK3 hb3 hs3 hb4 hg1 hL3 hs
  go_wp2
  have HG := HG.out
  have HL := HL.out
  have R := ((((H2.out.far (p := ⟨g1 + 1 + 1, 0, none⟩) (by show g1 + 1 ≠ g1 + 1 + 1; omega) (.slice A4 n4 c4)).far (p := ⟨g1 + 1 + 1, 1, none⟩) (by show g1 + 1 ≠ g1 + 1 + 1; omega) (.int .i64 x)).set_ 0 (.slice A4 n4 c4)).set_ 1 (.int .i64 x))
  have gs : w4.grownBy (w4.setCell ⟨g1 + 1 + 1, 0, none⟩ (.slice A4 n4 c4)) (some (g1 + 1 + 1)) := grown_set _ _ _
  refine bodyPost_ret (results_row Try.results118 _ _ (g1 + 1) 118 #[.slice A4 n4 c4, .int .i64 x] _ rfl R Try.underlying118 rfl (by kernel_rfl)) rfl ?_
  refine ⟨A4, n4, c4, rfl, ?_, ?_⟩
  · refine ((((HO.out.kept (grown_set _ _ _) ?_).kept (grown_set _ _ _) ?_).kept (grown_set _ _ _) ?_).kept (grown_set _ _ _) ?_).wide (by omega) (by simp) <;>
      (intro b hb e; have := HO.out.lt b hb; injection e with e; simp only [] at e; omega)
  · exact (((HB.out.setCell (by show w.heap.size ≤ g1 + 1 + 1; omega) _).setCell (by show w.heap.size ≤ g1 + 1 + 1; omega) _).setCell (by show w.heap.size ≤ g1 + 1; omega) _).setCell (by show w.heap.size ≤ g1 + 1; omega) _

theorem Try.infoTermZC : (Try.prog.info? 118).map (fun i => (i.zero, i.size, i.bytes)) = some (some (.agg #[.slice none 0 0, .int .i64 0]), 2, 32) := by kernel_rfl
/-- 'make([]Term, n)'. -/
theorem wpList_make_termsC {ops : Array Oper} {rest : List Oper} {o : Oper} {a : Act} {w : World} {Q : Exit → Act → World → Prop} (hgd : o.guard = none) (l c : Operand) (ho : o.op = .makeSlice 51 l c)
    (n : Nat) (hl : a.eval l = .int .i64 n) (hc : a.eval c = .int .i64 n) (hn : n ≤ 1099511627776)
    (hK : ∀ w', OwnTC w' w.heap.size w'.heap.size (some ⟨w.heap.size, 0, none⟩) n n (zeroT n) → Below w.heap.size w w' → wpList Try.prog ops Q rest (a.put o.dst (.slice (some ⟨w.heap.size, 0, none⟩) n n)) w') :
    wpList Try.prog ops Q (o :: rest) a w := by
  obtain ⟨i0, hi, hz0, hz1, hz2⟩ := info_parts Try.infoTermZC
  refine wpList_make_full w hgd l c 51 ho w.heap.size 118 i0 (.agg #[.slice none 0 0, .int .i64 0]) 2 Try.underlying51 hi hz0 hz1 .i64 .i64 n n n hl hc rfl rfl (by rw [hz2]; omega) (by unfold maxLen; omega) (Nat.le_refl _) ?_
  intro w1 ho1 hg1
  refine hK w1 (OwnTC.zeros ho1 ?_) (grow_below hg1 (Nat.le_refl _) (by intro k hk; cases hk))
  exact (ho1.lt w.heap.size rfl).2
set_option maxHeartbeats 800000 in
theorem toTermS_anyC (A : Option Addr) (n c : Nat) (ts : List Tm) (w : World) (hs : TS w A n ts) (hn : n ≤ 1099511627776) (hne : ∀ k, k < n → (tm ts k).1.length ≤ 1099511627776) :
    Calls Try.prog 46 #[.slice A n c] w fun e w' => FreshTC w w' e ts := by
  have hl := hs.1
  have HNE := Lib.hid hne
  have HL := Lib.hid hl
  obtain ⟨B, hB⟩ : ∃ B, B = w.heap.size := ⟨_, rfl⟩
  have HB0 : Hid (B = w.heap.size) := hB
  clear hne
  go_enter Try.func46, Try.ntmps46
  go_wp2_with (at_make; refine wpList_make_termsC rfl (.tmp 6) (.tmp 6) rfl n rfl rfl hn ?_; intro w1 hown hbel1)
  rw [← hB] at hown hbel1 ⊢
  go_loopw [4] (fun i wr => ∃ k : Nat, k ≤ n ∧ i = .int .i64 k ∧ OwnTC wr B wr.heap.size (some ⟨B, 0, none⟩) n n (copT ts k) ∧ Below B w wr)
    (fun i _ => n - (intOf i).toNat)
  case atStart =>
    refine ⟨0, Nat.zero_le _, rfl, ?_, hbel1⟩
    rw [copT_zero, hl]; exact hown
  case round =>
    obtain ⟨k, hk, rfl, hown2, hbel⟩ := hrel
    clear hown hbel1 w1
    have HO := Lib.hid hown2
    have HB := Lib.hid hbel
    by_cases hlt : k < n
    · obtain ⟨b, o, A', n', c', rfl, hb, hc0, hc1, hsi, hnc, hnil⟩ := (hs.below hbel (by omega)).at_ hlt
      obtain ⟨x, hx⟩ : ∃ x, x = (tm ts k).2 := ⟨_, rfl⟩
      obtain ⟨xs, hxs⟩ : ∃ xs, xs = (tm ts k).1 := ⟨_, rfl⟩
      rw [← hx] at hc1
      rw [← hxs] at hsi
      have hn' : n' ≤ 1099511627776 := by have := HNE.out k hlt; rw [← hxs] at this; have := hsi.1; omega
      have HX := Lib.hid hx
      have HXS := Lib.hid hxs
      have HSI := Lib.hid hsi
      clear hx hxs hown2 hbel hs hl hsi hB
      have hlI : (k : Int) < (n : Int) := by omega
      go_wp2_with fail
      refine (toTerm_anyC _ _ _ xs x _ HSI.out hn').mono ?_
      rintro e w2 ⟨A2, n2, c2, rfl, ho2, hb2⟩
      have hO2 := HO.out.below hb2 (Nat.le_refl _)
      obtain ⟨A3, n3, c3, hd0, hd1, hfz, _⟩ := hO2.exp hlt
      have hf0 := hfz (k * 2)
      have hf1 := hfz (k * 2 + 1)
      have hput := hO2.put hlt ho2 (Nat.le_refl _) (Nat.le_trans (by have := HB0.out; have := HB.out.size; omega) (Nat.le_refl _)) hb2.size x
      have HP := Lib.hid hput
      have HB2 := Lib.hid (HB.out.trans (hb2.mono (by have := HB.out.size; have := HB0.out; omega)))
      have HBW := Lib.hid (Nat.le_refl B)
      clear hfz hput hO2 ho2 hb2 HSI hc0 hc1
      go_wp2
      go_roundw
      case rel =>
        refine ⟨k + 1, by omega, by go_num, ?_, ?_⟩
        · have h1 := HP.out.1
          rw [HX.out, HXS.out, copT_succ (by rw [HL.out]; exact hlt)] at h1
          rw [HX.out]
          simpa using h1
        · exact HB2.out.grown HP.out.2 (by have := HB2.out.size; have := HB0.out; omega) (by rintro q ⟨⟩; exact Nat.le_refl _)
      case measure => simp [intOf]; omega
    · have hkn : k = n := by omega
      subst hkn
      go_wp2
      go_ret
      have e := HB0.out
      subst e
      refine ⟨_, _, _, rfl, ?_, HB.out⟩
      have := HO.out
      rw [← HL.out, copT_all] at this
      rw [← HL.out]
      exact this
end Go.Proofs.Ytcoelbfcndeblaa.Cls

/-
  TermEq, for values of type Class instead of terms (made by wip/gen/gen_cls.py). Conditions: lengths below 2^40.
-/





namespace Go.Proofs.Ytcoelbfcndeblaa.Cls
open Go.RowKit
section
variable {P : Program} {ops : Array Oper} {C : World → Prop} {Q : Act → Prop} {a : Act} {o : Oper} {rest : List Oper}
end
set_option maxHeartbeats 400000 in
theorem szTerm_anyC (A : Option Addr) (n c : Nat) (x l : Int) (w : World) (hn : n ≤ 9223372036854775807) (h0 : 0 ≤ l) (h1 : l ≤ 1048576) :
    Calls Try.prog 114 #[.agg #[.slice A n c, .int .i64 x], .int .i64 l] w fun e w' => e = .returned (.int .i64 (if l < (n : Int) then -1 else l - n)) ∧ Below w.heap.size w w' := by
  by_cases h : l < (n : Int)
  · rw [if_pos h]
    have hS := fun w => szIntS_any A n c l w hn h0 h1
    rw [if_pos h] at hS
    have HS := Lib.hid hS
    clear hS
    go_enter Try.func114, Try.ntmps114
    go_wp2_with fail
    refine (HS.out _).mono ?_
    rintro e w1 ⟨rfl, rfl⟩
    go_wp2
    go_ret
    exact ⟨rfl, by go_grown⟩
  · rw [if_neg h]
    have hS := fun w => szIntS_any A n c l w hn h0 h1
    rw [if_neg h] at hS
    have HS := Lib.hid hS
    have h2 : ¬ l - (n : Int) < 0 := by omega
    clear hS
    go_enter Try.func114, Try.ntmps114
    go_wp2_with fail
    refine (HS.out _).mono ?_
    rintro e w1 ⟨rfl, rfl⟩
    obtain ⟨m, hm⟩ : ∃ m, m = l - (n : Int) := ⟨_, rfl⟩
    have HM := Lib.hid hm
    rw [← hm] at h2 ⊢
    clear hm
    go_wp2
    go_ret
    exact ⟨ret_int HM.out, by go_grown⟩

set_option maxHeartbeats 400000 in
theorem eqTerm_anyC (A A' : Option Addr) (n c n' c' : Nat) (xs ys : List Int) (x y : Int) (w : World) (hs : SI w A n xs) (hs' : SI w A' n' ys) (hn : n ≤ 1099511627776) (hn' : n' ≤ 1099511627776) :
    Calls Try.prog 123 #[.agg #[.slice A n c, .int .i64 x], .agg #[.slice A' n' c', .int .i64 y]] w fun e w' => e = .returned (.bool (decide ((xs, x) = (ys, y)))) ∧ Below w.heap.size w w' := by
  have hE := eqIntS_any A A' n c n' c' xs ys ((w.alloc (.cells #[.slice A n c, .int .i64 x] 118)).alloc (.cells #[.slice A' n' c', .int .i64 y] 118)) ((hs.alloc _).alloc _) ((hs'.alloc _).alloc _) hn hn'
  have HE := Lib.hid hE
  clear hE hs hs'
  cases hb : eqL xs ys with
  | false =>
    have hne : ¬ xs = ys := by simpa [eqL] using hb
    rw [hb] at HE
    have HN := Lib.hid hne
    clear hne hb
    go_enter Try.func123, Try.ntmps123
    go_wp2_with fail
    refine HE.out.mono ?_
    rintro e w1 ⟨rfl, m, rfl⟩
    go_wp2
    go_ret
    exact ⟨ret_bool (by simp [HN.out]), Below.drawnN (by go_grown) m⟩
  | true =>
    have he : xs = ys := by simpa [eqL] using hb
    rw [hb] at HE
    have HN := Lib.hid he
    clear he hb
    by_cases hxy : x = y
    · subst hxy
      go_enter Try.func123, Try.ntmps123
      go_wp2_with fail
      refine HE.out.mono ?_
      rintro e w1 ⟨rfl, m, rfl⟩
      go_wp2
      go_ret
      exact ⟨ret_bool (by simp [HN.out]), Below.drawnN (by go_grown) m⟩
    · have hb : (x != y) = true := by simpa using hxy
      have HXY := Lib.hid hxy
      clear hxy
      go_enter Try.func123, Try.ntmps123
      go_wp2_with fail
      refine HE.out.mono ?_
      rintro e w1 ⟨rfl, m, rfl⟩
      go_wp2
      go_ret
      exact ⟨ret_bool (by simp [HXY.out]), Below.drawnN (by go_grown) m⟩

set_option maxHeartbeats 800000 in
/-- szTermS: below 0, or everything is small. -/
theorem szTermS_anyC (A : Option Addr) (n c : Nat) (ts : List Tm) (w : World) (hs : TS w A n ts) (hn : n ≤ 9223372036854775807) (hne : ∀ k, k < n → (tm ts k).1.length ≤ 9223372036854775807) :
    Calls Try.prog 44 #[.slice A n c, .int .i64 1048576] w fun e w' => (∃ r : Int, e = .returned (.int .i64 r) ∧ (r < 0 ∨ (0 ≤ r ∧ n ≤ 1048576 ∧ ∀ k, k < n → (tm ts k).1.length ≤ 1048576))) ∧ Below w.heap.size w w' := by
  have HNE := Lib.hid hne
  clear hne
  by_cases hbig : (1048576 : Int) < (n : Int)
  · have h' : (1048576 : Int) - (n : Int) < 0 := by omega
    have hw : IntKind.i64.wrap (1048576 - (n : Int)) = 1048576 - (n : Int) := IntWalk.i64_in _ (by omega)
    go_enter Try.func44, Try.ntmps44
    go_wp2
    go_ret
    exact ⟨⟨_, rfl, .inl (by omega)⟩, Below.refl _ _⟩
  · have h' : ¬ (1048576 : Int) - (n : Int) < 0 := by omega
    have hw : IntKind.i64.wrap (1048576 - (n : Int)) = 1048576 - (n : Int) := IntWalk.i64_in _ (by omega)
    go_enter Try.func44, Try.ntmps44
    go_wp2
    go_loopw [1, 5] (fun v i wr => ∃ (k : Nat) (l : Int), k ≤ n ∧ i = .int .i64 k ∧ v = .int .i64 l ∧ 0 ≤ l ∧ l ≤ 1048576 ∧ (∀ j, j < k → (tm ts j).1.length ≤ 1048576) ∧ Below w.heap.size w wr)
      (fun _ i _ => n - (intOf i).toNat)
    case atStart => exact ⟨0, _, Nat.zero_le _, rfl, rfl, by omega, by omega, fun j hj => absurd hj (by omega), Below.refl _ _⟩
    case round =>
      obtain ⟨k, l, hk, rfl, rfl, hl0, hl1, hall, hbel⟩ := hrel
      have HA := Lib.hid hall
      have HB := Lib.hid hbel
      clear hall
      clear h' hw
      by_cases hlt : k < n
      · obtain ⟨b, o, A', n', c', rfl, hb, hc0, hc1, hsi, hnc, hnil⟩ := (hs.below hbel (by omega)).at_ hlt
        obtain ⟨x, hx⟩ : ∃ x, x = (tm ts k).2 := ⟨_, rfl⟩
        rw [← hx] at hc1
        have hlen := hsi.1
        have hn' : n' ≤ 9223372036854775807 := by have := HNE.out k hlt; omega
        have HLEN := Lib.hid hlen
        clear hx hsi hbel hs hlen hnil
        have hlI : (k : Int) < (n : Int) := by omega
        by_cases hsm : l < (n' : Int)
        · have hS := fun w => szTerm_anyC A' n' c' x l w hn' hl0 hl1
          rw [if_pos hsm] at hS
          have HS := Lib.hid hS
          clear hS
          go_wp2_with fail
          refine (HS.out _).mono ?_
          rintro e w2 ⟨rfl, hb2⟩
          have HB2 := Lib.hid (HB.out.trans (hb2.mono HB.out.size))
          clear hb2
          go_wp2
          go_ret
          exact ⟨⟨_, rfl, .inl (by omega)⟩, HB2.out⟩
        · have hS := fun w => szTerm_anyC A' n' c' x l w hn' hl0 hl1
          rw [if_neg hsm] at hS
          obtain ⟨m, hm⟩ : ∃ m, m = l - (n' : Int) := ⟨_, rfl⟩
          rw [← hm] at hS
          have HS := Lib.hid hS
          have hm0 : 0 ≤ m := by omega
          have hm1 : m ≤ 1048576 := by omega
          have hmn : ¬ m < 0 := by omega
          have hsml : n' ≤ 1048576 := by omega
          clear hS hm
          go_wp2_with fail
          refine (HS.out _).mono ?_
          rintro e w2 ⟨rfl, hb2⟩
          have HB2 := Lib.hid (HB.out.trans (hb2.mono HB.out.size))
          clear hb2
          go_wp2
          go_roundw
          case rel => exact ⟨k + 1, m, by omega, by go_num, rfl, hm0, hm1, fun j hj => by
            rcases Nat.lt_or_ge j k with h | h
            · exact HA.out j h
            · obtain rfl : j = k := by omega
              have := HLEN.out
              omega, HB2.out⟩
          case measure => simp [intOf]; omega
      · have hkn : k = n := by omega
        subst hkn
        go_wp2
        go_ret
        exact ⟨⟨l, rfl, .inr ⟨hl0, by omega, HA.out⟩⟩, HB.out⟩

set_option maxHeartbeats 1600000 in
theorem eqTermS_anyC (A A' : Option Addr) (n c n' c' : Nat) (ts us : List Tm) (w : World) (hs : TS w A n ts) (hs' : TS w A' n' us) (hn : n ≤ 1099511627776) (hn' : n' ≤ 1099511627776)
    (hne : ∀ k, k < n → (tm ts k).1.length ≤ 1099511627776) (hne' : ∀ k, k < n' → (tm us k).1.length ≤ 1099511627776) :
    Calls Try.prog 49 #[.slice A n c, .slice A' n' c'] w fun e w' => e = .returned (.bool (eqTs ts us)) ∧ Below w.heap.size w w' := by
  have HNE := Lib.hid (And.intro hne hne')
  have HL := Lib.hid (And.intro hs.1 hs'.1)
  clear hne hne'
  by_cases hnn : n = n'
  · subst hnn
    go_enter Try.func49, Try.ntmps49
    go_wp2
    go_loopw [5] (fun i wr => ∃ k : Nat, k ≤ n ∧ i = .int .i64 k ∧ (∀ j, j < k → tm ts j = tm us j) ∧ Below w.heap.size w wr)
      (fun i _ => n - (intOf i).toNat)
    case atStart => exact ⟨0, Nat.zero_le _, rfl, fun j hj => absurd hj (by omega), Below.refl _ _⟩
    case round =>
      obtain ⟨k, hk, rfl, hall, hbel⟩ := hrel
      have HA := Lib.hid hall
      have HB := Lib.hid hbel
      clear hall
      by_cases hlt : k < n
      · obtain ⟨b, o, A1, n1, c1, rfl, hb, hc0, hc1, hsi, hnc, hnil⟩ := (hs.below hbel (by omega)).at_ hlt
        obtain ⟨b', o', A2, n2, c2, rfl, hb', hc0', hc1', hsi', hnc', hnil'⟩ := (hs'.below hbel (by omega)).at_ hlt
        have hl1 : n1 ≤ 1099511627776 := by have := HNE.out.1 k hlt; have := hsi.1; omega
        have hl2 : n2 ≤ 1099511627776 := by have := HNE.out.2 k hlt; have := hsi'.1; omega
        have hlI : (k : Int) < (n : Int) := by omega
        have R1 := TS.range hc0 hc1
        have R2 := TS.range hc0' hc1'
        have call : ∀ w', AfterT wr w' → Calls Try.prog 123 #[.agg #[.slice A1 n1 c1, .int .i64 (tm ts k).2], .agg #[.slice A2 n2 c2, .int .i64 (tm us k).2]] w' (fun e w'' => e = .returned (.bool (decide (tm ts k = tm us k))) ∧ AfterT wr w'') := fun w' hw' =>
          (eqTerm_anyC A1 A2 n1 c1 n2 c2 _ _ _ _ w' (hsi.below hw' (Nat.le_refl _)) (hsi'.below hw' (Nat.le_refl _)) hl1 hl2).mono fun e w'' ⟨he, hb⟩ => ⟨he, Below.trans hw' (hb.mono hw'.size)⟩
        have LD1 : ∀ w', AfterT wr w' → w'.rangeAt b (o + k * 2) [.slice A1 n1 c1, .int .i64 (tm ts k).2] := fun w' hw' j v hj => by
          rw [Below.cell hw' (p := ⟨b, o + k * 2 + j, none⟩) hb]; exact R1 j v hj
        have LD2 : ∀ w', AfterT wr w' → w'.rangeAt b' (o' + k * 2) [.slice A2 n2 c2, .int .i64 (tm us k).2] := fun w' hw' j v hj => by
          rw [Below.cell hw' (p := ⟨b', o' + k * 2 + j, none⟩) hb']; exact R2 j v hj
        obtain ⟨x, hx⟩ : ∃ x, x = (tm ts k).2 := ⟨_, rfl⟩
        obtain ⟨y, hy⟩ : ∃ y, y = (tm us k).2 := ⟨_, rfl⟩
        obtain ⟨q, hq⟩ : ∃ q, q = decide (tm ts k = tm us k) := ⟨_, rfl⟩
        rw [← hx] at LD1 call
        rw [← hy] at LD2 call
        rw [← hq] at call
        have HQ := Lib.hid hq
        have CA := Lib.hid call
        have L1 := Lib.hid LD1
        have L2 := Lib.hid LD2
        clear hc0 hc1 hc0' hc1' hsi hsi' hs hs' hbel R1 R2 call LD1 LD2 hx hy hq hnil hnil'
        go_wp2_with fail
        refine tq_class (AfterT wr) (by kernel_rfl) (by kernel_rfl) (Below.refl _ _).drew ?_
        refine tq_move rfl _ rfl ?_
        refine tq_move rfl _ rfl ?_
        refine wpQuiet_step (fun K hK => ?_)
        go_simp
        refine ⟨.pointer (some ⟨b, o + k * 2, none⟩), fun w' _ => rfl, hK _ ?_⟩
        clear hK K
        refine tq_load rfl 118 (.tmp 19) rfl b (o + k * 2) rfl [.slice A1 n1 c1, .int .i64 x] _ L1.out Try.underlying118 rfl Try.infoTermC ?_
        refine tq_move rfl _ rfl ?_
        refine tq_move rfl _ rfl ?_
        refine wpQuiet_step (fun K hK => ?_)
        go_simp
        refine ⟨.pointer (some ⟨b', o' + k * 2, none⟩), fun w' _ => rfl, hK _ ?_⟩
        clear hK K
        refine tq_load rfl 118 (.tmp 23) rfl b' (o' + k * 2) rfl [.slice A2 n2 c2, .int .i64 y] _ L2.out Try.underlying118 rfl Try.infoTermC ?_
        refine wpQuiet_step (fun K hK => ?_)
        go_simp
        refine ⟨.bool q, fun w' hw' => CA.out w' hw', hK _ ?_⟩
        clear hK K
        refine wpQuiet_step (fun K hK => ?_)
        go_simp
        refine ⟨.bool (!q), fun w' _ => rfl, hK _ ?_⟩
        clear hK K
        refine wpQuiet_nil ?_
        intro w5 hw5
        have HB5 := Lib.hid (HB.out.trans (Below.mono hw5 HB.out.size))
        clear hw5 L1 L2 CA
        cases q with
        | true =>
          go_wp2
          go_roundw
          case rel => exact ⟨k + 1, by omega, by go_num, fun j hj => by
            rcases Nat.lt_or_ge j k with h | h
            · exact HA.out j h
            · obtain rfl : j = k := by omega
              exact of_decide_eq_true HQ.out.symm, HB5.out⟩
          case measure => simp [intOf]; omega
        | false =>
          go_wp2
          go_ret
          exact ⟨ret_bool (eqTs_ne (k := k) (of_decide_eq_false HQ.out.symm)).symm, HB5.out⟩
      · have hkn : k = n := by omega
        subst hkn
        go_wp2
        go_ret
        exact ⟨ret_bool (eqTs_all (by have := HL.out; omega) (by rw [HL.out.1]; exact HA.out)).symm, HB.out⟩
  · have hne' : ¬ (n : Int) = (n' : Int) := by omega
    go_enter Try.func49, Try.ntmps49
    go_wp2
    go_ret
    exact ⟨ret_bool (eqTs_len (by have := HL.out; omega)).symm, Below.refl _ _⟩
end Go.Proofs.Ytcoelbfcndeblaa.Cls

/-
  Essential cells, on both sides. Conditions: lengths below 2^40.
-/
import Derived.Test.YtoogmghmnfljjaaDiaI
namespace Go.Proofs.Ytoogmghmnfljjaa
open Go.RowKit

theorem dRow_mem {bk : List Int} {i : Nat} {x : Ce} : ∀ {m : Nat}, x ∈ dRow bk i m → x.1 = (i : Int) ∧ 0 ≤ x.2 ∧ x.2 < (m : Int)
  | 0, h => by simp [dRow] at h
  | m + 1, h => by
    by_cases hk : (i : Int) < nth bk m
    · rw [dRow_hit hk, List.mem_append] at h
      rcases h with h | h
      · have := dRow_mem h; omega
      · simp at h; subst h; simp; omega
    · rw [dRow_miss hk] at h
      have := dRow_mem h; omega
theorem dAll_mem {xs bk : List Int} (h7 : ∀ i, i < xs.length → nth xs i < 7) {x : Ce} : ∀ {k : Nat}, k ≤ xs.length → x ∈ dAll xs bk k → 0 ≤ x.1 ∧ x.1 < (k : Int) ∧ 0 ≤ x.2 ∧ x.2 < 7
  | 0, _, h => by simp [dAll] at h
  | k + 1, hk, h => by
    have e : dAll xs bk (k + 1) = dAll xs bk k ++ dRow bk k (nth xs k).toNat := rfl
    rw [e, List.mem_append] at h
    rcases h with h | h
    · have := dAll_mem h7 (by omega) h; omega
    · have := dRow_mem h
      have := h7 k (by omega)
      omega
theorem diaPerm_mem {xs : List Int} {x : Ce} (h : x ∈ diaPerm xs) : 0 ≤ x.1 ∧ x.1 < 7 ∧ 0 ≤ x.2 ∧ x.2 < 7 := by
  cases hu : isPermB xs with
  | false => rw [diaPerm_no hu] at h; simp at h
  | true =>
    rw [diaPerm_yes hu] at h
    have hp := isPermB_P hu
    have h7 := hp.2.1
    have := dAll_mem (fun i hi => by have := (hp.range i hi).2; omega) (Nat.le_refl _) h
    omega
theorem ce_mem {cs : List Ce} {k : Nat} (h : k < cs.length) : ce cs k ∈ cs := by rw [ce_get h]; exact List.getElem_mem h
/-- Is the cell among them (not unfolded by the walk). -/
def hasC (cs : List Ce) (x : Ce) : Bool := decide (x ∈ cs)
theorem hasC_hit {cs : List Ce} {k : Nat} {x : Ce} (h : k < cs.length) (e : ce cs k = x) : hasC cs x = true := by
  unfold hasC; rw [← e]; exact decide_eq_true (ce_mem h)
theorem hasC_all {cs : List Ce} {x : Ce} (h : ∀ j, j < cs.length → ce cs j ≠ x) : hasC cs x = false := by
  unfold hasC
  apply decide_eq_false
  intro hm
  obtain ⟨j, hj, e⟩ := List.getElem_of_mem hm
  exact h j hj (by rw [ce_get hj]; exact e)

set_option maxHeartbeats 800000 in
theorem l1HasCell_any (A : Option Addr) (n c : Nat) (cs : List Ce) (x y : Int) (w : World) (hs : CS w A n cs) (hn : n ≤ 1099511627776) :
    Calls Try.prog 80 #[.slice A n c, .agg #[.int .i64 x, .int .i64 y]] w fun e w' => e = .returned (.bool (hasC cs (x, y))) ∧ Below w.heap.size w w' := by
  have HL := Lib.hid hs.1
  have hb0 : Below w.heap.size w (w.alloc (.cells #[.int .i64 x, .int .i64 y] 53)) := by go_grown
  have hK0 := Blk.new w 53 #[.int .i64 x, .int .i64 y]
  have hs0 := hs.below hb0 (Nat.le_refl _)
  have HB := Lib.hid hb0
  have HK := Lib.hid hK0
  clear hb0 hs hK0
  go_enter Try.func80, Try.ntmps80
  go_wp2
  obtain ⟨g, hg⟩ : ∃ g, g = w.heap.size := ⟨_, rfl⟩
  rw [← hg] at HK ⊢
  clear hg
  generalize (w.alloc (.cells #[.int .i64 x, .int .i64 y] 53)) = w0 at *
  go_loopw [5] (fun i wr => ∃ k : Nat, k ≤ n ∧ i = .int .i64 k ∧ (∀ j, j < k → ce cs j ≠ (x, y)) ∧ Drawn w0 wr)
    (fun i _ => n - (intOf i).toNat)
  case atStart => exact ⟨0, Nat.zero_le _, rfl, fun j hj => absurd hj (by omega), Drawn.refl _⟩
  case round =>
    obtain ⟨k, hk, rfl, hall, hD⟩ := hrel
    have HA := Lib.hid hall
    have HD := Lib.hid hD
    have hcs := hs0.drawn hD
    have K := HK.out.drawn hD
    have hd0 : wr.cell? ⟨g, 0, none⟩ = some (.int .i64 x) := K.cell 0
    have hd1 : wr.cell? ⟨g, 1, none⟩ = some (.int .i64 y) := K.cell 1
    clear hall hD hs0 K
    by_cases hlt : k < n
    · have hlI : (k : Int) < (n : Int) := by omega
      obtain ⟨b, o, rfl, hb, hc0, hc1⟩ := hcs.at_ hlt
      obtain ⟨p, hp⟩ : ∃ p, p = (ce cs k).1 := ⟨_, rfl⟩
      obtain ⟨q, hq⟩ : ∃ q, q = (ce cs k).2 := ⟨_, rfl⟩
      have hpq : ce cs k = (p, q) := by rw [hp, hq]
      rw [← hp] at hc0
      rw [← hq] at hc1
      have HPQ := Lib.hid hpq
      clear hcs hp hq hpq
      by_cases h1 : p = x
      · subst h1
        by_cases h2 : q = y
        · subst h2
          go_wp2_with fail
          go_quiet (fail)
          go_wp2
          go_ret
          exact ⟨ret_bool (hasC_hit (by rw [HL.out]; exact hlt) HPQ.out).symm, HB.out.trans ((HD.out.drewN _).below _)⟩
        · have hb2 : (q == y) = false := by simpa using h2
          have H2 := Lib.hid h2
          clear h2
          go_wp2_with fail
          go_quiet (fail)
          go_wp2
          go_roundw
          case rel => exact ⟨k + 1, by omega, by go_num, fun j hj => by
            rcases Nat.lt_or_ge j k with h | h
            · exact HA.out j h
            · obtain rfl : j = k := by omega
              rw [HPQ.out]; intro e; injection e with _ e; exact H2.out e, HD.out.drewN _⟩
          case measure => simp [intOf]; omega
      · have hb1 : (p == x) = false := by simpa using h1
        have H1 := Lib.hid h1
        clear h1
        go_wp2_with fail
        go_quiet (fail)
        go_wp2
        go_roundw
        case rel => exact ⟨k + 1, by omega, by go_num, fun j hj => by
          rcases Nat.lt_or_ge j k with h | h
          · exact HA.out j h
          · obtain rfl : j = k := by omega
            rw [HPQ.out]; intro e; injection e with e _; exact H1.out e, HD.out.drewN _⟩
        case measure => simp [intOf]; omega
    · have hkn : k = n := by omega
      subst hkn
      go_wp2
      go_ret
      exact ⟨ret_bool (hasC_all (by rw [HL.out]; exact HA.out)).symm, HB.out.trans (HD.out.below _)⟩
set_option maxHeartbeats 800000 in
theorem indexC_any (A : Option Addr) (n c : Nat) (cs : List Ce) (x y : Int) (w : World) (hs : CS w A n cs) (hn : n ≤ 1099511627776) :
    Calls Try.prog 105 #[.slice A n c, .agg #[.int .i64 x, .int .i64 y]] w fun e w' => (∃ r : Int, e = .returned (.int .i64 r) ∧ decide (0 ≤ r) = hasC cs (x, y)) ∧ Below w.heap.size w w' := by
  have HL := Lib.hid hs.1
  have hb0 : Below w.heap.size w (w.alloc (.cells #[.int .i64 x, .int .i64 y] 53)) := by go_grown
  have hK0 := Blk.new w 53 #[.int .i64 x, .int .i64 y]
  have hs0 := hs.below hb0 (Nat.le_refl _)
  have HB := Lib.hid hb0
  have HK := Lib.hid hK0
  clear hb0 hs hK0
  go_enter Try.func105, Try.ntmps105
  go_wp2
  obtain ⟨g, hg⟩ : ∃ g, g = w.heap.size := ⟨_, rfl⟩
  rw [← hg] at HK ⊢
  clear hg
  generalize (w.alloc (.cells #[.int .i64 x, .int .i64 y] 53)) = w0 at *
  go_loopw [8] (fun i wr => ∃ k : Nat, k ≤ n ∧ i = .int .i64 k ∧ (∀ j, j < k → ce cs j ≠ (x, y)) ∧ Drawn w0 wr)
    (fun i _ => n - (intOf i).toNat)
  case atStart => exact ⟨0, Nat.zero_le _, rfl, fun j hj => absurd hj (by omega), Drawn.refl _⟩
  case round =>
    obtain ⟨k, hk, rfl, hall, hD⟩ := hrel
    have HA := Lib.hid hall
    have HD := Lib.hid hD
    have hcs := hs0.drawn hD
    have K := HK.out.drawn hD
    have hd0 : wr.cell? ⟨g, 0, none⟩ = some (.int .i64 x) := K.cell 0
    have hd1 : wr.cell? ⟨g, 1, none⟩ = some (.int .i64 y) := K.cell 1
    clear hall hD hs0 K
    by_cases hlt : k < n
    · have hlI : (k : Int) < (n : Int) := by omega
      obtain ⟨b, o, rfl, hb, hc0, hc1⟩ := hcs.at_ hlt
      obtain ⟨p, hp⟩ : ∃ p, p = (ce cs k).1 := ⟨_, rfl⟩
      obtain ⟨q, hq⟩ : ∃ q, q = (ce cs k).2 := ⟨_, rfl⟩
      have hpq : ce cs k = (p, q) := by rw [hp, hq]
      rw [← hp] at hc0
      rw [← hq] at hc1
      have HPQ := Lib.hid hpq
      clear hcs hp hq hpq
      by_cases h1 : p = x
      · subst h1
        by_cases h2 : q = y
        · subst h2
          go_wp2_with fail
          go_quiet (fail)
          go_wp2
          go_ret
          exact ⟨⟨_, rfl, by rw [hasC_hit (by rw [HL.out]; exact hlt) HPQ.out]; simp⟩, HB.out.trans ((HD.out.drewN _).below _)⟩
        · have hb2 : (y == q) = false := by simpa using fun e => h2 e.symm
          have H2 := Lib.hid h2
          clear h2
          go_wp2_with fail
          go_quiet (fail)
          go_wp2
          go_roundw
          case rel => exact ⟨k + 1, by omega, by go_num, fun j hj => by
            rcases Nat.lt_or_ge j k with h | h
            · exact HA.out j h
            · obtain rfl : j = k := by omega
              rw [HPQ.out]; intro e; injection e with _ e; exact H2.out e, HD.out.drewN _⟩
          case measure => simp [intOf]; omega
      · have hb1 : (x == p) = false := by simpa using fun e => h1 e.symm
        have H1 := Lib.hid h1
        clear h1
        go_wp2_with fail
        go_quiet (fail)
        go_wp2
        go_roundw
        case rel => exact ⟨k + 1, by omega, by go_num, fun j hj => by
          rcases Nat.lt_or_ge j k with h | h
          · exact HA.out j h
          · obtain rfl : j = k := by omega
            rw [HPQ.out]; intro e; injection e with e _; exact H1.out e, HD.out.drewN _⟩
        case measure => simp [intOf]; omega
    · have hkn : k = n := by omega
      subst hkn
      go_wp2
      go_ret
      exact ⟨⟨_, rfl, by rw [hasC_all (by rw [HL.out]; exact HA.out)]; decide⟩, HB.out.trans (HD.out.below _)⟩

set_option maxHeartbeats 400000 in
theorem containsC_any (A : Option Addr) (n c : Nat) (cs : List Ce) (x y : Int) (w : World) (hs : CS w A n cs) (hn : n ≤ 1099511627776) :
    Calls Try.prog 81 #[.slice A n c, .agg #[.int .i64 x, .int .i64 y]] w fun e w' => e = .returned (.bool (hasC cs (x, y))) ∧ Below w.heap.size w w' := by
  have hb0 : Below w.heap.size w (w.alloc (.cells #[.int .i64 x, .int .i64 y] 53)) := by go_grown
  have hI := indexC_any A n c cs x y (w.alloc (.cells #[.int .i64 x, .int .i64 y] 53)) (hs.below hb0 (Nat.le_refl _)) hn
  have HI := Lib.hid hI
  have HB := Lib.hid hb0
  clear hI hb0 hs
  go_enter Try.func81, Try.ntmps81
  go_wp2_with fail
  refine HI.out.mono ?_
  rintro e w1 ⟨⟨r, rfl, hr⟩, hb⟩
  have HR := Lib.hid hr
  clear hr
  go_wp2
  go_ret
  exact ⟨ret_bool HR.out, HB.out.trans (hb.mono HB.out.size)⟩

/-- The essential ones among the first k cells. -/
def essL (cs : List Ce) : Nat → List Ce
  | 0 => []
  | k + 1 => if hasC cs ((ce cs k).1 + 1, (ce cs k).2) = false ∧ hasC cs ((ce cs k).1, (ce cs k).2 + 1) = false then essL cs k ++ [ce cs k] else essL cs k
theorem essL_len (cs : List Ce) : ∀ k, (essL cs k).length ≤ k
  | 0 => by simp [essL]
  | k + 1 => by
    have := essL_len cs k
    unfold essL
    split <;> simp <;> omega
theorem essL_hit {cs : List Ce} {k : Nat} (h1 : hasC cs ((ce cs k).1 + 1, (ce cs k).2) = false) (h2 : hasC cs ((ce cs k).1, (ce cs k).2 + 1) = false) : essL cs (k + 1) = essL cs k ++ [ce cs k] := by
  show (if _ then _ else _) = _; rw [if_pos ⟨h1, h2⟩]
theorem essL_miss {cs : List Ce} {k : Nat} (h : hasC cs ((ce cs k).1 + 1, (ce cs k).2) = true ∨ hasC cs ((ce cs k).1, (ce cs k).2 + 1) = true) : essL cs (k + 1) = essL cs k := by
  show (if _ then _ else _) = _
  rw [if_neg]
  rintro ⟨h1, h2⟩
  rcases h with h | h
  · rw [h1] at h; cases h
  · rw [h2] at h; cases h
def essPerm (xs : List Int) : List Ce := essL (diaPerm xs) (diaPerm xs).length
theorem essPerm_small (xs : List Int) : (essPerm xs).length ≤ 49 := Nat.le_trans (essL_len _ _) (diaPerm_small xs)

set_option maxRecDepth 100000 in
set_option maxHeartbeats 1600000 in
theorem specEssential_any (A : Option Addr) (n c : Nat) (xs : List Int) (w : World) (hs : SI w A n xs) (hnc : n ≤ c) (hn : n ≤ 1099511627776) :
    Calls Try.prog 42 #[.slice A n c] w fun e w' => FreshC w w' e (essPerm xs) := by
  have hD := specDiagram_any A n c xs w hs hnc hn
  have HD := Lib.hid hD
  have HM := Lib.hid (fun x (h : x ∈ diaPerm xs) => diaPerm_mem h)
  have HS := Lib.hid (diaPerm_small xs)
  have HE : Hid (essPerm xs = essL (diaPerm xs) (diaPerm xs).length) := Lib.hid rfl
  clear hD hs
  obtain ⟨cs, hcs⟩ : ∃ cs, cs = diaPerm xs := ⟨_, rfl⟩
  rw [← hcs] at HD HM HS HE
  clear hcs
  go_enter Try.func42, Try.ntmps42
  go_wp2_with fail
  refine HD.out.mono ?_
  rintro e w1 ⟨Al, nl, cl, rfl, hol, hbl⟩
  have HL := Lib.hid hol.len
  have hl49 : nl ≤ 49 := by have := HL.out; have := HS.out; omega
  have hC1 := OwnC.empty w1
  have hb1 : Below w1.heap.size w1 (w1.alloc (.cells #[] 53)) := (Below.refl _ _).alloc (Nat.le_refl _) _
  have hsz : (w1.alloc (.cells #[] 53)).heap.size = w1.heap.size + 1 := by simp
  have HSL := Lib.hid hol.si
  have HBL := Lib.hid hbl
  go_wp2
  clear hol hbl
  have HC2 : Hid (OwnC (w1.alloc (.cells #[] 53)) w1.heap.size (w1.alloc (.cells #[] 53)).heap.size (some ⟨w1.heap.size, 0, none⟩) 0 0 []) := Lib.hid (by rw [hsz]; exact hC1)
  generalize (w1.alloc (.cells #[] 53)) = w2 at *
  have HB2 := Lib.hid hb1
  clear hb1 hC1 hsz
  go_loopw [4, 5] (fun v i wr => ∃ (k m : Nat) (A' : Option Addr) (c' : Nat), k ≤ nl ∧ i = .int .i64 k ∧ v = .slice A' m c' ∧ OwnC wr w1.heap.size wr.heap.size A' m c' (essL cs k) ∧ Below w1.heap.size w1 wr)
    (fun _ i _ => nl - (intOf i).toNat)
  case atStart => exact ⟨0, 0, _, _, Nat.zero_le _, rfl, rfl, HC2.out, HB2.out⟩
  case round =>
    obtain ⟨k, m, A', c', hk, rfl, rfl, hoc, hbel⟩ := hrel
    have HOC := Lib.hid hoc
    have HB := Lib.hid hbel
    have hsl := HSL.out.below hbel (Nat.le_refl _)
    have hml : m ≤ 1099511627776 := by have h1 := hoc.len; have h2 := essL_len cs k; omega
    clear hoc hbel HC2 HB2
    by_cases hlt : k < nl
    · have hlI : (k : Int) < (nl : Int) := by omega
      obtain ⟨b, o, rfl, hb, hc0, hc1⟩ := hsl.at_ hlt
      obtain ⟨hp0, hp1, hq0, hq1⟩ := HM.out (ce cs k) (ce_mem (by rw [HL.out]; exact hlt))
      have hit := essL_hit (cs := cs) (k := k)
      have miss := essL_miss (cs := cs) (k := k)
      obtain ⟨p, hp⟩ : ∃ p, p = (ce cs k).1 := ⟨_, rfl⟩
      obtain ⟨q, hq⟩ : ∃ q, q = (ce cs k).2 := ⟨_, rfl⟩
      have hpq : ce cs k = (p, q) := by rw [hp, hq]
      rw [← hp] at hc0 hp0 hp1
      rw [← hq] at hc1 hq0 hq1
      rw [hpq] at hit miss
      have HIT := Lib.hid hit
      have MISS := Lib.hid miss
      obtain ⟨wa, hwa⟩ : ∃ wa, wa = wr.alloc (.cells #[.int .i64 p, .int .i64 q] 53) := ⟨_, rfl⟩
      have hba : Below wr.heap.size wr wa := by rw [hwa]; exact (Below.refl _ _).alloc (Nat.le_refl _) _
      have hka : Blk wa wr.heap.size 53 #[.int .i64 p, .int .i64 q] := by rw [hwa]; exact Blk.new _ _ _
      have C1 := l1HasCell_any (some ⟨b, o, none⟩) nl cl cs (p + 1) q wa (hsl.below hba (Nat.le_refl _)) (by omega)
      have hsa := hsl.below hba (Nat.le_refl _)
      have HSA := Lib.hid hsa
      have HBA := Lib.hid (And.intro hba hka)
      have HW := Lib.hid hwa
      rw [hwa] at C1
      have HC1 := Lib.hid C1
      clear hwa hba hka hsa C1 hsl hit miss hp hq hpq
      go_wp2_with fail
      refine HC1.out.mono ?_
      rw [← HW.out]
      rintro e w3 ⟨rfl, hb3⟩
      have hk3 := HBA.out.2.below hb3 HBA.out.2.lt
      have hd0 : w3.cell? ⟨wr.heap.size, 0, none⟩ = some (.int .i64 p) := hk3.cell 0
      have hd1 : w3.cell? ⟨wr.heap.size, 1, none⟩ = some (.int .i64 q) := hk3.cell 1
      have hbw : Below wr.heap.size wr w3 := HBA.out.1.trans (hb3.mono HBA.out.1.size)
      have HK3 := Lib.hid hk3
      have HBW := Lib.hid hbw
      have C2 := l1HasCell_any (some ⟨b, o, none⟩) nl cl cs p (q + 1) w3 (HSA.out.below hb3 (Nat.le_refl _)) (by omega)
      have HC2 := Lib.hid C2
      clear hk3 hbw C2 hb3 HC1 hc0 hc1
      cases h1 : hasC cs (p + 1, q) with
      | true =>
        have HX := Lib.hid (MISS.out (.inl h1))
        clear h1
        go_wp2
        go_roundw
        case rel => exact ⟨k + 1, m, A', c', by omega, by go_num, rfl, by rw [HX.out]; exact (HOC.out.below HBW.out (Nat.le_refl _)).wide (Nat.le_refl _) HBW.out.size, HB.out.trans (HBW.out.mono HB.out.size)⟩
        case measure => simp [intOf]; omega
      | false =>
        have H1 := Lib.hid h1
        clear h1
        go_wp2_with fail
        refine HC2.out.mono ?_
        rintro e w4 ⟨rfl, hb4⟩
        have hk4 := HK3.out.below hb4 HK3.out.lt
        have hd0 : w4.cell? ⟨wr.heap.size, 0, none⟩ = some (.int .i64 p) := hk4.cell 0
        have hd1 : w4.cell? ⟨wr.heap.size, 1, none⟩ = some (.int .i64 q) := hk4.cell 1
        have hbw : Below wr.heap.size wr w4 := HBW.out.trans (hb4.mono HBW.out.size)
        have HBX := Lib.hid hbw
        clear hk4 hbw hb4 HC2
        cases h2 : hasC cs (p, q + 1) with
        | true =>
          have HX := Lib.hid (MISS.out (.inr h2))
          clear h2
          go_wp2
          go_roundw
          case rel => exact ⟨k + 1, m, A', c', by omega, by go_num, rfl, by rw [HX.out]; exact (HOC.out.below HBX.out (Nat.le_refl _)).wide (Nat.le_refl _) HBX.out.size, HB.out.trans (HBX.out.mono HB.out.size)⟩
          case measure => simp [intOf]; omega
        | false =>
          have HX := Lib.hid (HIT.out H1.out h2)
          clear h2
          have HO4 := Lib.hid ((HOC.out.below HBX.out (Nat.le_refl _)).wide (Nat.le_refl _) HBX.out.size)
          go_wp2_with (at_builtin; refine wpList_appendC rfl (.tmp 40) (.tmp 42) rfl w1.heap.size A' m c' (essL cs k) p q rfl rfl HO4.out (Nat.le_trans HB.out.size HBX.out.size) hml ?_; intro A2 c2 w6 ho6 hb6 hg6 hn6)
          go_roundw
          case rel => exact ⟨k + 1, m + 1, A2, c2, by omega, by go_num, rfl, by rw [HX.out]; exact ho6, (HB.out.trans (HBX.out.mono HB.out.size)).trans hb6⟩
          case measure => simp [intOf]; omega
    · have hkn : k = nl := by omega
      subst hkn
      go_wp2
      go_ret
      refine ⟨A', m, c', rfl, ?_, HBL.out.trans (HB.out.mono HBL.out.size)⟩
      rw [HE.out, HL.out]
      exact HOC.out.wide HBL.out.size (Nat.le_refl _)
end Go.Proofs.Ytoogmghmnfljjaa

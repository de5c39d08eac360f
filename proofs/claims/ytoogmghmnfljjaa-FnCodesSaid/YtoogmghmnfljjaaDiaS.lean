/-
  Diagrams: the specification's side. Conditions: lengths below 2^40.
-/
import Derived.Test.YtoogmghmnfljjaaCells
import Derived.Test.YtoogmghmnfljjaaSpecB
namespace Go.Proofs.Ytoogmghmnfljjaa
open Go.RowKit

/-- The cells of row i in the first m columns. -/
def dRow (bk : List Int) (i : Nat) : Nat → List Ce
  | 0 => []
  | m + 1 => if (i : Int) < nth bk m then dRow bk i m ++ [((i : Int), (m : Int))] else dRow bk i m
theorem dRow_len (bk : List Int) (i : Nat) : ∀ m, (dRow bk i m).length ≤ m
  | 0 => by simp [dRow]
  | m + 1 => by
    have := dRow_len bk i m
    unfold dRow
    split <;> simp <;> omega
theorem dRow_hit {bk : List Int} {i m : Nat} (h : (i : Int) < nth bk m) : dRow bk i (m + 1) = dRow bk i m ++ [((i : Int), (m : Int))] := by
  show (if _ then _ else _) = _; rw [if_pos h]
theorem dRow_miss {bk : List Int} {i m : Nat} (h : ¬ (i : Int) < nth bk m) : dRow bk i (m + 1) = dRow bk i m := by
  show (if _ then _ else _) = _; rw [if_neg h]
theorem dRow_congr {bk bk' : List Int} {i : Nat} : ∀ m, (∀ j, j < m → nth bk j = nth bk' j) → dRow bk i m = dRow bk' i m
  | 0, _ => rfl
  | m + 1, h => by
    have e := dRow_congr (i := i) m (fun j hj => h j (by omega))
    have e2 := h m (by omega)
    show (if _ then _ else _) = (if _ then _ else _)
    rw [e, e2]
/-- The cells of the first k rows. -/
def dAll (xs bk : List Int) : Nat → List Ce
  | 0 => []
  | i + 1 => dAll xs bk i ++ dRow bk i (nth xs i).toNat
theorem dAll_len {xs bk : List Int} (h : ∀ i, i < xs.length → nth xs i < 7) : ∀ k, k ≤ xs.length → (dAll xs bk k).length ≤ 7 * k
  | 0, _ => by simp [dAll]
  | k + 1, hk => by
    have h1 := dAll_len (bk := bk) h k (by omega)
    have h2 := dRow_len bk k (nth xs k).toNat
    have h3 := h k (by omega)
    have e : dAll xs bk (k + 1) = dAll xs bk k ++ dRow bk k (nth xs k).toNat := rfl
    rw [e, List.length_append]
    omega
def diaPerm (xs : List Int) : List Ce := if isPermB xs = true then dAll xs (invM xs xs.length xs.length) xs.length else []
theorem diaPerm_no {xs : List Int} (h : isPermB xs = false) : diaPerm xs = [] := by unfold diaPerm; rw [if_neg (by rw [h]; decide)]
theorem diaPerm_yes {xs : List Int} (h : isPermB xs = true) : diaPerm xs = dAll xs (invM xs xs.length xs.length) xs.length := by unfold diaPerm; rw [if_pos h]
theorem diaPerm_small (xs : List Int) : (diaPerm xs).length ≤ 49 := by
  cases h : isPermB xs with
  | false => rw [diaPerm_no h]; simp
  | true =>
    rw [diaPerm_yes h]
    have hp := isPermB_P h
    have h7 := hp.2.1
    have := dAll_len (xs := xs) (bk := invM xs xs.length xs.length) (fun i hi => by have := (hp.range i hi).2; omega) xs.length (Nat.le_refl _)
    omega

set_option maxRecDepth 100000 in
set_option maxHeartbeats 1600000 in
theorem specDiagram_any (A : Option Addr) (n c : Nat) (xs : List Int) (w : World) (hs : SI w A n xs) (hnc : n ≤ c) (hn : n ≤ 1099511627776) :
    Calls Try.prog 37 #[.slice A n c] w fun e w' => FreshC w w' e (diaPerm xs) := by
  have hl := hs.1
  cases hu : isPermB xs with
  | false =>
    have HE := Lib.hid (diaPerm_no hu)
    have HU := Lib.hid hu
    clear hu
    go_enter Try.func37, Try.ntmps37
    go_wp2_with (go_at_call 75; refine (specIsPerm_is c HU.out hs hnc hn).mono ?_; rintro e w1 ⟨rfl, hd1⟩)
    go_ret
    rw [HE.out]
    exact FreshC.nil_ret (hd1.below _)
  | true =>
    have hp := isPermB_P hu
    have HP := Lib.hid hp
    have HE := Lib.hid (diaPerm_yes hu)
    have HU := Lib.hid hu
    have HL := Lib.hid hl
    have h7 : n ≤ 7 := by have := hp.2.1; omega
    have h1 : 1 ≤ n := by have := hp.1; omega
    have hrng : ∀ k, k < n → 0 ≤ nth xs k ∧ nth xs k < (n : Int) := fun k hk => by have := hp.range k (by rw [hl]; exact hk); rw [hl] at this; exact this
    have HR := Lib.hid hrng
    have HSI := Lib.hid hs
    clear hu hp hl hrng
    go_enter Try.func37, Try.ntmps37
    go_wp2_with (go_at_call 75; refine (specIsPerm_is c HU.out hs hnc hn).mono ?_; rintro e w1 ⟨rfl, hd1⟩; have HD1 := Lib.hid hd1; clear hd1)
    have hz : w1.heap.size = w.heap.size := by rw [HD1.out.heap]
    have hC0 := (OwnC.empty w1)
    have hb1 : Below w.heap.size w (w1.alloc (.cells #[] 53)) := (HD1.out.below _).alloc (by rw [hz]; exact Nat.le_refl _) _
    have hs1 := HSI.out.below hb1 (Nat.le_refl _)
    have hsz : (w1.alloc (.cells #[] 53)).heap.size = w1.heap.size + 1 := by simp
    generalize (w1.alloc (.cells #[] 53)) = w2 at *
    have HC0 := Lib.hid hC0
    have HB1 := Lib.hid hb1
    have HSZ := Lib.hid (And.intro hsz hz)
    have hI := l1Inverse_any A n c xs w2 hs1 hn HR.out
    have HI := Lib.hid hI
    clear hC0 hb1 hs1 hsz hI hs hz
    refine HI.out.mono ?_
    rintro e w3 ⟨Ab, nb, cb, rfl, hob, hbb⟩
    have enb : nb = n := by have := hob.len; rw [invM_len] at this; exact this.symm
    subst enb
    obtain ⟨gb, rfl, hgb1, hgb2⟩ := hob.place (by omega)
    have HOB := Lib.hid hob
    have HC3 : Hid (OwnC w3 w.heap.size w3.heap.size (some ⟨w1.heap.size, 0, none⟩) 0 0 []) := Lib.hid ((HC0.out.below hbb (by rw [HSZ.out.1]; exact Nat.le_refl _)).wide (by rw [HSZ.out.2]; exact Nat.le_refl _) (by have := hbb.size; have := HSZ.out.1; omega))
    have HB3 := Lib.hid (HB1.out.trans (hbb.mono HB1.out.size))
    have HGB : Hid (w1.heap.size < gb ∧ gb < w3.heap.size) := Lib.hid ⟨by have := HSZ.out.1; omega, hgb2⟩
    have HOS : Hid (Own w3 w2.heap.size w3.heap.size (some ⟨gb, 0, none⟩) nb cb (invM xs nb nb)) := HOB
    clear hob hbb hgb1 hgb2 HC0 HI
    obtain ⟨bk, hbk⟩ : ∃ bk, bk = invM xs nb nb := ⟨_, rfl⟩
    rw [← hbk] at HOS HOB
    have HBK := Lib.hid hbk
    clear hbk
    go_wp2
    go_loopw [3, 5] (fun v i wr => ∃ (k m : Nat) (A' : Option Addr) (c' : Nat), k ≤ nb ∧ i = .int .i64 k ∧ v = .slice A' m c' ∧ OwnC wr w.heap.size wr.heap.size A' m c' (dAll xs bk k) ∧ (∀ g, (Value.slice A' m c').ownBlock = some g → g ≠ gb) ∧ SI wr (some ⟨gb, 0, none⟩) nb bk ∧ gb < wr.heap.size ∧ Below w.heap.size w wr)
      (fun _ i _ => nb - (intOf i).toNat)
    case atStart => exact ⟨0, 0, _, _, Nat.zero_le _, rfl, rfl, HC3.out, (fun g hg => by have := HGB.out.1; simp [Value.ownBlock] at hg; omega), HOS.out.si, HGB.out.2, HB3.out⟩
    case round =>
      obtain ⟨k, m, A', c', hk, rfl, rfl, hoc, hne, hsb, hgw, hbel⟩ := hrel
      have HOC := Lib.hid hoc
      have HNE := Lib.hid hne
      have HSB := Lib.hid hsb
      have HGW := Lib.hid hgw
      have HB := Lib.hid hbel
      clear hoc hne hsb hgw hbel HC3 HOS HB3 HGB
      by_cases hlt : k < nb
      · have hlI : (k : Int) < (nb : Int) := by omega
        obtain ⟨hx0, hx1⟩ := HR.out k hlt
        obtain ⟨q, hq⟩ : ∃ q : Nat, nth xs k = (q : Int) := ⟨(nth xs k).toNat, by omega⟩
        have hqn : q < nb := by omega
        have HQ := Lib.hid hq
        have hda : dAll xs bk (k + 1) = dAll xs bk k ++ dRow bk k q := by show _ ++ dRow bk k (nth xs k).toNat = _; rw [hq, Int.toNat_natCast]
        have HDA := Lib.hid hda
        clear hq hda hx0 hx1
        go_wp2
        go_loopw [3, 6] (fun v i w5 => ∃ (j m : Nat) (A' : Option Addr) (c' : Nat), j ≤ q ∧ i = .int .i64 j ∧ v = .slice A' m c' ∧ OwnC w5 w.heap.size w5.heap.size A' m c' (dAll xs bk k ++ dRow bk k j) ∧ (∀ g, (Value.slice A' m c').ownBlock = some g → g ≠ gb) ∧ SI w5 (some ⟨gb, 0, none⟩) nb bk ∧ gb < w5.heap.size ∧ Below w.heap.size w w5)
          (fun _ i _ => q - (intOf i).toNat)
        case atStart => exact ⟨0, m, A', c', Nat.zero_le _, rfl, rfl, by simpa [dRow] using HOC.out, HNE.out, HSB.out, HGW.out, HB.out⟩
        case round =>
          clear HOC HNE HSB HGW HB
          obtain ⟨j, m, A', c', hj, rfl, rfl, hoc, hne, hsb, hgw, hbel⟩ := hrel
          have HOC := Lib.hid hoc
          have HNE := Lib.hid hne
          have HSB := Lib.hid hsb
          have HGW := Lib.hid hgw
          have HB := Lib.hid hbel
          have hsx := HSI.out.below hbel (Nat.le_refl _)
          obtain ⟨bx, ox, eA, hbx, hcx⟩ := hsx.at_ (by omega)
          have hck := hcx k hlt
          rw [HQ.out] at hck
          subst eA
          by_cases hjq : j < q
          · have hjI : (j : Int) < (q : Int) := by omega
            obtain ⟨b2, o2, e2, hb2, hc2⟩ := hsb.at_ (by omega)
            injection e2 with e2
            injection e2 with e21 e22 e23
            subst e21; subst e22
            have hcb := hc2 j (by omega)
            rw [Nat.zero_add] at hcb
            obtain ⟨y, hy⟩ : ∃ y, y = nth bk j := ⟨_, rfl⟩
            rw [← hy] at hcb
            have HY := Lib.hid hy
            have hml : m ≤ 1099511627776 := by
              have h1 := hoc.len
              have h2 := dAll_len (xs := xs) (bk := bk) (fun i hi => by have := (HP.out.range i hi).2; rw [HL.out] at this; omega) k (by rw [HL.out]; omega)
              have h3 := dRow_len bk k j
              rw [List.length_append] at h1
              omega
            clear hoc hne hsb hgw hbel hsx hcx hc2 hy
            by_cases hky : (k : Int) < y
            · have hrh := dRow_hit (bk := bk) (i := k) (m := j) (by rw [← HY.out]; exact hky)
              have HRH := Lib.hid hrh
              clear hrh
              go_wp2_with (at_builtin; refine wpList_appendC rfl (.tmp 33) (.tmp 37) rfl w.heap.size A' m c' (dAll xs bk k ++ dRow bk k j) k j rfl rfl HOC.out HB.out.size hml ?_; intro A2 c2 w6 ho6 hb6 hg6 hn6)
              have hsb6 : SI w6 (some ⟨gb, 0, none⟩) nb bk := ⟨HSB.out.1, fun hn => by
                obtain ⟨b4, o4, e4, hb4, hc4⟩ := HSB.out.2 hn
                refine ⟨b4, o4, e4, Nat.lt_of_lt_of_le hb4 hg6.size, fun t ht => ?_⟩
                injection e4 with e4
                injection e4 with e41 e42 _
                subst e41; subst e42
                exact hg6.cell (hc4 t ht) (fun e => HNE.out gb e.symm rfl)⟩
              go_roundw
              case rel => exact ⟨j + 1, m + 1, A2, c2, by omega, by go_num, rfl, by rw [HRH.out, ← List.append_assoc]; exact ho6, (fun g hg => by
                rcases hn6 g hg with h | h
                · exact HNE.out g h
                · have := HGW.out; omega), hsb6, Nat.lt_of_lt_of_le HGW.out hg6.size, HB.out.trans (hb6.mono (Nat.le_refl _))⟩
              case measure => simp [intOf]; omega
            · have hrh := dRow_miss (bk := bk) (i := k) (m := j) (by rw [← HY.out]; exact hky)
              have HRH := Lib.hid hrh
              clear hrh
              go_wp2
              go_roundw
              case rel => exact ⟨j + 1, m, A', c', by omega, by go_num, rfl, by rw [HRH.out]; exact HOC.out, HNE.out, HSB.out, HGW.out, HB.out⟩
              case measure => simp [intOf]; omega
          · have hjn : j = q := by omega
            subst hjn
            clear hoc hne hsb hgw hbel hsx hcx
            go_wp2
            go_roundw
            case rel => exact ⟨k + 1, m, A', c', by omega, by go_num, rfl, by rw [HDA.out]; exact HOC.out, HNE.out, HSB.out, HGW.out, HB.out⟩
            case measure => simp [intOf]; omega
      · have hkn : k = nb := by omega
        subst hkn
        go_wp2
        go_ret
        refine ⟨A', m, c', rfl, ?_, HB.out⟩
        rw [HE.out, HL.out, ← HBK.out]
        exact HOC.out
end Go.Proofs.Ytoogmghmnfljjaa

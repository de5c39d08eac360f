/-
  Two permutations drawn: contracts of l1New, dPerm. Conditions: at most 2^20 bytes.
-/
import Derived.Test.YthmnaakaogpohaaDraw
import Derived.Test.YthmnaakaogpohaaDecode
import Derived.Test.YthmnaakaogpohaaPerm5
namespace Go.Proofs.Ythmnaakaogpohaa
open Go.RowKit

theorem grown_below {w a b : World} {row : Option Nat} (h : w.grownBy a row) (hb : Below w.heap.size a b) : w.grownBy b row :=
  ⟨hb.os.trans h.os, hb.tape.trans h.tape, hb.output.trans h.output, Nat.le_trans h.size hb.size, fun k hk hne => (hb.block k hk).trans (h.block k hk hne)⟩
theorem grown_trans {w a b : World} {row : Option Nat} (h : w.grownBy a row) (h2 : a.grownBy b row) : w.grownBy b row :=
  ⟨h2.os.trans h.os, h2.tape.trans h.tape, h2.output.trans h.output, Nat.le_trans h.size h2.size, fun k hk hne => (h2.block k (Nat.lt_of_lt_of_le hk h.size) hne).trans (h.block k hk hne)⟩
/-- What a call hands back that makes a slice and draws from the cursor in block g. -/
def FreshG (g : Nat) (w w' : World) (e : Ending) (ys : List Int) : Prop :=
  ∃ A n c, e = .returned (.slice A n c) ∧ Own w' w.heap.size w'.heap.size A n c ys ∧ Cu w' g ∧ w.grownBy w' (some g)

set_option maxRecDepth 100000 in
set_option maxHeartbeats 1000000 in
theorem l1New_any (A : Option Addr) (n c : Nat) (bs : List Int) (w : World) (hs : SB w w.heap.size A n bs) (hn : n ≤ 1048576) :
    Calls Try.prog 51 #[.slice A n c] w fun e w' => e = .returned (.pointer (some ⟨w.heap.size, 0, none⟩)) ∧ Cu w' w.heap.size ∧ Below w.heap.size w w' := by
  have HS := Lib.hid hs
  clear hs
  go_enter Try.func51, Try.ntmps51
  go_wp2
  go_loop [3, 4] (fun h i => ∃ (k : Nat) (x : Int), k ≤ n ∧ i = .int .i64 k ∧ h = .int .i64 x)
    (fun _ i => n - (intOf i).toNat)
  case atStart => exact ⟨0, _, Nat.zero_le _, rfl, rfl⟩
  case round =>
    obtain ⟨k, x, hk, rfl, rfl⟩ := hrel
    have fin : ∀ h : Int, Cu (w.alloc (.cells #[.slice A n c, .int .i64 0, .int .i64 h] 108)) w.heap.size := fun h =>
      ⟨A, n, c, w.heap.size, bs, ⟨0, h, Nat.zero_le _, Blk.new w _ _⟩, HS.out.below (Below.alloc_self w _) (Nat.le_refl _), Nat.le_refl _, hn⟩
    have FIN := Lib.hid fin
    clear fin
    by_cases hlt : k < n
    · by_cases h4 : k < 4000
      · obtain ⟨b, o, rfl, hbB, hc⟩ := HS.out.2.2 (by omega)
        have hc1 := hc k hlt
        obtain ⟨hy1, hy2⟩ := HS.out.2.1 k hlt
        obtain ⟨y, hy⟩ : ∃ y, y = nth bs k := ⟨_, rfl⟩
        rw [← hy] at hc1 hy1 hy2
        clear hc hy
        go_wp2
        go_round
        case rel => exact ⟨k + 1, _, by omega, by go_num, rfl⟩
        case measure => simp [intOf]; omega
      · go_wp2
        go_ret
        exact ⟨rfl, FIN.out _, Below.alloc_self _ _⟩
    · have hkn : k = n := by omega
      subst hkn
      go_wp2
      go_ret
      exact ⟨rfl, FIN.out _, Below.alloc_self _ _⟩

set_option maxHeartbeats 1000000 in
theorem dPerm_any (g m : Nat) (w : World) (hc : Cu w g) (h1 : 1 ≤ m) (h7 : m ≤ 7) :
    Calls Try.prog 53 #[.pointer (some ⟨g, 0, none⟩), .int .i64 m] w fun e w' => ∃ ys, FreshG g w w' e ys ∧ isPermP ys ∧ ys.length = m := by
  have hgl := hc.lt
  go_enter Try.func53, Try.ntmps53
  go_wp2
  go_loopw [5, 6] (fun v i wr => ∃ (k : Nat) (A : Option Addr) (c : Nat) (cs : List Int), k ≤ m ∧ i = .int .i64 k ∧ v = .slice A k c ∧ Own wr w.heap.size wr.heap.size A k c cs ∧ (∀ j, j < k → 0 ≤ nth cs j ∧ nth cs j ≤ (m : Int) - 1 - j) ∧ Cu wr g ∧ w.grownBy wr (some g))
    (fun _ i _ => m - (intOf i).toNat)
  case atStart => exact ⟨0, _, _, [], Nat.zero_le _, rfl, rfl, (Own.empty w).wide (Nat.le_refl _) (by simp), fun j hj => absurd hj (by omega), hc.below (Below.alloc_self w _) hgl, World.grownBy_alloc w _ _⟩
  case round =>
    obtain ⟨k, A0, c0, cs, hk, rfl, rfl, hown, hcs, hcu, hg⟩ := hrel
    have HO := Lib.hid hown
    have HCs := Lib.hid hcs
    have HC := Lib.hid hcu
    have HG := Lib.hid hg
    clear hown hcs hcu hg hc
    by_cases hlt : k < m
    · go_wp2_with fail
      refine (l1Below_any g ((m : Int) - (k : Int)) wr HC.out (by omega)).mono ?_
      rintro e w1 ⟨x, hx0, hx1, -, rfl, hc1, hg1⟩
      have hx2 := hx1 (by omega)
      have HO1 : Hid (Own w1 w.heap.size w1.heap.size A0 k c0 cs) := Lib.hid ((HO.out.grown hg1 (by rintro k0 ⟨⟩; exact .inl hgl)).wide (Nat.le_refl _) hg1.size)
      have HC1 := Lib.hid hc1
      have HG1 := Lib.hid (grown_trans HG.out hg1)
      clear hx1 hc1 hg1
      go_wp2_with (at_builtin; refine wpList_append1 rfl (.tmp 13) (.tmp 19) rfl w.heap.size A0 k c0 cs x rfl rfl HO1.out HG1.out.size (by omega) ?_; intro A' c' w3 ho3 hg3 hb3)
      go_roundw
      case rel =>
        refine ⟨k + 1, _, _, cs ++ [x], by omega, by go_num, rfl, ho3, fun j hj => ?_, ?_, grown_below HG1.out hb3⟩
        · have hlen := HO1.out.len
          rcases Nat.lt_or_ge j k with hj1 | hj1
          · rw [nth_snoc_lt (by omega)]; exact HCs.out j hj1
          · have e : j = k := by omega
            subst e
            have : nth (cs ++ [x]) j = x := by rw [← hlen]; exact nth_snoc_eq
            omega
        · exact HC1.out.below hb3 hgl
      case measure => simp [intOf]; omega
    · have hkm : k = m := by omega
      subst hkm
      go_wp2_with fail
      refine (l1Decode_any A0 k c0 cs wr HO.out.si h7 HCs.out).mono ?_
      rintro e w3 ⟨ys, ⟨A3, n3, c3, rfl, ho3, hb3⟩, hd3⟩
      have HO3 := Lib.hid ho3
      have HB3 := Lib.hid hb3
      have HD3 := Lib.hid hd3
      clear ho3 hb3 hd3
      go_wp2
      go_ret
      exact ⟨ys, ⟨A3, n3, c3, rfl, HO3.out.wide HG.out.size (Nat.le_refl _), HC.out.below HB3.out HC.out.lt, grown_below HG.out (HB3.out.mono HG.out.size)⟩, HD3.out.perm h1 h7, HD3.out.1⟩

theorem Own.single (w : World) (x : Int) : Own (w.alloc (.cells #[.int .i64 x] 3)) w.heap.size (w.heap.size + 1) (some ⟨w.heap.size, 0, none⟩) 1 1 [x] :=
  ⟨World.ownsRow_lit w #[.int .i64 x] 1 (Nat.le_refl _) (by unfold maxLen; omega) rfl, fun k hk => by simp [Value.ownBlock] at hk; omega⟩
theorem nth_cons_zero (x : Int) (l : List Int) : nth (x :: l) 0 = x := rfl
theorem nth_cons_succ (x : Int) (l : List Int) (k : Nat) : nth (x :: l) (k + 1) = nth l k := by simp [nth, List.getD]

set_option maxRecDepth 100000 in
set_option maxHeartbeats 4000000 in
theorem dReduced_any (g n c : Nat) (A : Option Addr) (xs : List Int) (w : World) (hc : Cu w g) (hs : SI w A n xs) (hp : isPermP xs) (h5 : n ≤ 5) (hnc : n ≤ c) :
    Calls Try.prog 73 #[.pointer (some ⟨g, 0, none⟩), .slice A n c] w fun e w' => ∃ ys, FreshG g w w' e ys ∧ wordP (n : Int) ys := by
  have hgl := hc.lt
  have HL0 := Lib.hid hs.1
  have h10 : lenL xs ≤ 10 := len_small hp (by have := hs.1; omega)
  have H10 := Lib.hid h10
  have HP0 := Lib.hid hp
  clear h10 hp
  go_enter Try.func73, Try.ntmps73
  go_wp2_with fail
  refine (l1Ints_any A n c xs _ (hs.alloc _) (by omega)).mono ?_
  rintro e w1 ⟨A1, n1, c1, rfl, ho1, hb1⟩
  have en : n1 = n := by have := ho1.len; have := HL0.out; omega
  subst en
  have HE1 := Lib.hid (((Own.empty w).below hb1 (by simp)).wide (Nat.le_refl _) (Nat.le_trans (by simp) hb1.size))
  have HO1 : Hid (Own w1 w.heap.size w1.heap.size A1 n1 c1 xs) := Lib.hid (ho1.wide (by simp) (Nat.le_refl _))
  have HG1 : Hid (w.grownBy w1 (some g)) := Lib.hid (grown_below (World.grownBy_alloc w _ _) (hb1.mono (by simp)))
  have HC1 : Hid (Cu w1 g) := Lib.hid ((hc.below (Below.alloc_self w _) hgl).below hb1 (by simp; omega))
  clear ho1 hb1 hc hs
  go_wp2
  go_loopw [5, 6] (fun o5 v wr => ∃ (m : Nat) (A c : _) (out : List Int) (A' : Option Addr) (c' : Nat) (vs : List Int), o5 = .slice A m c ∧ v = .slice A' n1 c' ∧ Own wr w.heap.size wr.heap.size A m c out ∧ Own wr w.heap.size wr.heap.size A' n1 c' vs ∧
      isPermP vs ∧ lenL vs + m = lenL xs ∧ (∀ j, j < m → 0 ≤ nth out j ∧ nth out j ≤ (n1 : Int) - 2) ∧ Cu wr g ∧ w.grownBy wr (some g))
    (fun o5 _ _ => match o5 with | .slice _ m _ => 20 - m | _ => 0)
  case atStart => exact ⟨0, _, _, [], _, _, xs, rfl, rfl, HE1.out, HO1.out, HP0.out, by simp, fun j hj => absurd hj (by omega), HC1.out, HG1.out⟩
  case round =>
    obtain ⟨m, A2, c2, out, A3, c3, vs, rfl, rfl, ho2, ho3, hpv, hlen, hent, hcu, hg⟩ := hrel
    have hlb := lenL_bounds (xs := vs) (by have := ho3.len; omega)
    have hm10 : m ≤ 10 := by have := H10.out; omega
    have hcap := ho3.cap
    have HO2 := Lib.hid ho2
    have HO3 := Lib.hid ho3
    have HPV := Lib.hid hpv
    have HLen := Lib.hid hlen
    have HEnt := Lib.hid hent
    have HC := Lib.hid hcu
    have HG := Lib.hid hg
    obtain ⟨hl0, hl49⟩ := hlb
    clear ho2 ho3 hpv hlen hent hcu hg HE1 HO1 HG1 HC1
    go_wp2_with fail
    refine (l1Length_any A3 n1 c3 vs wr HO3.out.si (by omega)).mono ?_
    rintro e w2 ⟨rfl, hb2⟩
    obtain ⟨q, hq⟩ : ∃ q, q = lenL vs := ⟨_, rfl⟩
    rw [← hq] at hl0 hl49 ⊢
    have HQ := Lib.hid hq
    clear hq
    have HO2b := Lib.hid ((HO2.out.below hb2 (Nat.le_refl _)).wide (Nat.le_refl _) hb2.size)
    have HO3b := Lib.hid ((HO3.out.below hb2 (Nat.le_refl _)).wide (Nat.le_refl _) hb2.size)
    have HCb := Lib.hid (HC.out.below hb2 HC.out.lt)
    have HGb := Lib.hid (grown_below HG.out (hb2.mono HG.out.size))
    clear hb2 HO2 HO3 HC HG
    by_cases hpos : 0 < q
    · have hpB := isPermB_true HPV.out
      have HPB := Lib.hid hpB
      clear hpB
      go_wp2_with fail
      refine (specDescents_any A3 n1 c3 vs w2 HO3b.out.si hcap (by omega)).mono ?_
      rintro e w3 ⟨A4, n4, c4, rfl, ho4, hb4⟩
      rw [descPerm_yes HPB.out] at ho4
      have hn4 : 1 ≤ n4 := by
        have := has_descent HPV.out (by have := HO3b.out.len; omega) (by have := HQ.out; omega)
        have := ho4.len
        omega
      have hn4' : n4 ≤ 5 := by
        have h1 := ho4.len
        have h2 := descL_len vs (vs.length - 1)
        have := HO3b.out.len
        omega
      have HO2c := Lib.hid ((HO2b.out.below hb4 (Nat.le_refl _)).wide (Nat.le_refl _) hb4.size)
      have HO3c := Lib.hid ((HO3b.out.below hb4 (Nat.le_refl _)).wide (Nat.le_refl _) hb4.size)
      have HCc := Lib.hid (HCb.out.below hb4 HCb.out.lt)
      have HGc := Lib.hid (grown_below HGb.out (hb4.mono HGb.out.size))
      have HO4 : Hid (Own w3 w.heap.size w3.heap.size A4 n4 c4 (descL vs (vs.length - 1))) := Lib.hid (ho4.wide HGb.out.size (Nat.le_refl _))
      clear ho4 hb4 HO2b HO3b HCb HGb
      go_wp2_with fail
      refine (l1Below_any g (n4 : Int) w3 HCc.out (by omega)).mono ?_
      rintro e w4 ⟨x, hx0, hx1, -, rfl, hc4, hg4⟩
      have hx2 := hx1 (by omega)
      obtain ⟨j, rfl⟩ : ∃ j : Nat, x = (j : Int) := ⟨x.toNat, by omega⟩
      have hj : j < n4 := by omega
      have HO2d : Hid (Own w4 w.heap.size w4.heap.size A2 m c2 out) := Lib.hid ((HO2c.out.grown hg4 (by rintro k0 ⟨⟩; exact .inl hgl)).wide (Nat.le_refl _) hg4.size)
      have HO3d : Hid (Own w4 w.heap.size w4.heap.size A3 n1 c3 vs) := Lib.hid ((HO3c.out.grown hg4 (by rintro k0 ⟨⟩; exact .inl hgl)).wide (Nat.le_refl _) hg4.size)
      have ho4d : Own w4 w.heap.size w4.heap.size A4 n4 c4 (descL vs (vs.length - 1)) := (HO4.out.grown hg4 (by rintro k0 ⟨⟩; exact .inl hgl)).wide (Nat.le_refl _) hg4.size
      have HCd := Lib.hid hc4
      have HGd := Lib.hid (grown_trans HGc.out hg4)
      obtain ⟨g4, rfl, _, _⟩ := ho4d.place (by omega)
      have hcell := ho4d.cellAt hj
      obtain ⟨k, hk1, hk2, hk3⟩ := descL_mem vs (vs.length - 1) j (by have := ho4d.len; omega)
      rw [hk2] at hcell
      have hkn : k + 1 < n1 := by have := HO3d.out.len; omega
      have HK3 := Lib.hid hk3
      have hjI : (j : Int) < (n4 : Int) := by omega
      clear hx1 hx2 hx0 hc4 hg4 ho4d hk1 hk2 hk3 HO2c HO3c HCc HGc HO4
      have hsw : Calls Try.prog 65 #[.slice A3 n1 c3, .int .i64 k, .int .i64 ((k : Int) + 1)] w4 (fun e w' => Fresh w4 w' e (swapL vs k (k + 1))) :=
        l1Swap_any A3 n1 c3 k (k + 1) vs w4 HO3d.out.si (by omega) (by omega) (by omega) (by omega)
      have HSW := Lib.hid hsw
      clear hsw
      go_wp2_with fail
      refine HSW.out.mono ?_
      rintro e w5 ⟨A5, n5, c5, rfl, ho5, hb5⟩
      have en5 : n5 = n1 := by have := ho5.len; rw [swapL_len] at this; have := HO3d.out.len; omega
      subst en5
      have ho2e := (HO2d.out.below hb5 (Nat.le_refl _)).wide (Nat.le_refl _) hb5.size
      have HO5 : Hid (Own w5 w.heap.size w5.heap.size A5 n5 c5 (swapL vs k (k + 1))) := Lib.hid (ho5.wide HGd.out.size (Nat.le_refl _))
      have HCe := Lib.hid (HCd.out.below hb5 HCd.out.lt)
      have HGe := Lib.hid (grown_below HGd.out (hb5.mono HGd.out.size))
      have HSI2 : Hid (SI (w5.alloc (.cells #[.int .i64 k] 3)) A2 m out) := Lib.hid ((ho2e.below (Below.alloc_self w5 _) (Nat.le_refl _)).si)
      have hol := ho2e.len
      clear ho2e ho5 hb5
      go_wp2_with (at_builtin; refine wpList_append_all rfl (.tmp 30) (.tmp 31) rfl w5.heap.size (some ⟨w5.heap.size, 0, none⟩) 1 1 [(k : Int)] A2 m c2 out rfl rfl ((Own.single w5 k).wide (Nat.le_refl _) (by simp)) HSI2.out (by simp) (by omega) (by omega) ?_; intro A' c' w6 ho6 hg6 hb6)
      have hb6' : Below w5.heap.size w5 w6 := (Below.alloc_self w5 _).trans hb6
      go_roundw
      case rel =>
        have e1 := HPV.out
        have e2 := HK3.out
        have e3 := HLen.out
        have hvl : vs.length = n5 := by have := HO3d.out.len; omega
        have hsd := swap_down e1 (by omega) (i := k) (by omega) e2
        refine ⟨1 + m, A', c', [(k : Int)] ++ out, A5, c5, swapL vs k (k + 1), rfl, rfl, ho6.wide HGe.out.size (Nat.le_refl _), (HO5.out.below hb6' (Nat.le_refl _)).wide (Nat.le_refl _) hb6'.size, swap_perm e1 (by omega) (by omega), by omega, fun t ht => ?_, HCe.out.below hb6' HCe.out.lt, grown_below HGe.out (hb6'.mono HGe.out.size)⟩
        rw [List.singleton_append]
        cases t with
        | zero => rw [nth_cons_zero]; omega
        | succ t => rw [nth_cons_succ]; exact HEnt.out t (by omega)
      case measure => simp; omega
    · go_wp2
      go_ret
      refine ⟨out, ⟨A2, m, c2, rfl, HO2b.out, HCb.out, HGb.out⟩, ?_⟩
      have hol := HO2b.out.len
      have hp1 := HP0.out.1
      have hL := HL0.out
      exact ⟨by omega, by omega, by omega, by rw [hol]; exact HEnt.out⟩

theorem Own.gk {a b : World} {lo g n c : Nat} {A : Option Addr} {xs : List Int} (ho : Own a lo a.heap.size A n c xs) (hg : a.grownBy b (some g)) (h : g < lo) : Own b lo b.heap.size A n c xs :=
  (ho.grown hg (by rintro k ⟨⟩; exact .inl h)).wide (Nat.le_refl _) hg.size
theorem Own.bk {a b : World} {lo n c : Nat} {A : Option Addr} {xs : List Int} (ho : Own a lo a.heap.size A n c xs) (hb : Below a.heap.size a b) : Own b lo b.heap.size A n c xs :=
  (ho.below hb (Nat.le_refl _)).wide (Nat.le_refl _) hb.size
theorem belowG {w a b : World} {B g : Nat} (hB : Below B w a) (hg : a.grownBy b (some g)) (h : B ≤ g) (hs : B ≤ a.heap.size) : Below B w b := hB.grown hg hs (by rintro k ⟨⟩; exact h)

set_option maxRecDepth 100000 in
set_option maxHeartbeats 4000000 in
/-- Two permutations of one size of at most 5. -/
theorem drawTwoPerms_any (A : Option Addr) (n c : Nat) (bs : List Int) (w : World) (hs : SB w w.heap.size A n bs) (hn : n ≤ 1048576) :
    Calls Try.prog 30 #[.slice A n c] w fun e w' => ∃ (us vs : List Int) (A1 A2 : Option Addr) (m c1 c2 : Nat), e = .returned (.tuple #[.slice A1 m c1, .slice A2 m c2]) ∧
      Own w' w.heap.size w'.heap.size A1 m c1 us ∧ Own w' w.heap.size w'.heap.size A2 m c2 vs ∧ isPermP us ∧ isPermP vs ∧ m ≤ 5 ∧ Below w.heap.size w w' := by
  go_enter Try.func30, Try.ntmps30
  go_wp2_with fail
  refine (l1New_any A n c bs w hs hn).mono ?_
  rintro e w1 ⟨rfl, hc1, hb1⟩
  obtain ⟨g, hg⟩ : ∃ g, g = w.heap.size := ⟨_, rfl⟩
  rw [← hg] at hc1 ⊢
  have hgle : w.heap.size ≤ g := by omega
  have HGl := Lib.hid hg
  have HB1 := Lib.hid hb1
  have hgl := hc1.lt
  clear hg hb1 hs
  go_wp2_with fail
  refine (l1Below_any g 5 w1 hc1 (by omega)).mono ?_
  rintro e w2 ⟨x, hx0, hx1, -, rfl, hc2, hg2⟩
  have hx2 := hx1 (by omega)
  obtain ⟨x', rfl⟩ : ∃ j : Nat, x = (j : Int) := ⟨x.toNat, by omega⟩
  obtain ⟨m, hm⟩ : ∃ m : Nat, m = x' + 1 := ⟨_, rfl⟩
  have hm1 : 1 ≤ m := by omega
  have hm5 : m ≤ 5 := by omega
  have hmI : (1 : Int) + (x' : Int) = (m : Int) := by omega
  have hmI2 : (x' : Int) + 1 = (m : Int) := by omega
  have HB2 := Lib.hid (belowG HB1.out hg2 hgle HB1.out.size)
  have hs2 := hg2.size
  clear hx1 hx2 hx0 hc1 hm
  go_wp2_with fail
  refine (dPerm_any g m w2 hc2 hm1 (by omega)).mono ?_
  rintro e w3 ⟨us, ⟨A3, n3, c3, rfl, ho3, hc3, hg3⟩, hpu, hlu⟩
  have en3 : n3 = m := by have := ho3.len; omega
  subst en3
  have HU3 : Hid (Own w3 w1.heap.size w3.heap.size A3 n3 c3 us) := Lib.hid (ho3.wide hs2 (Nat.le_refl _))
  have HB3 := Lib.hid (belowG HB2.out hg3 hgle HB2.out.size)
  have HPU := Lib.hid hpu
  have hcap3 := ho3.cap
  have HZ3 := Lib.hid (Nat.le_trans hs2 hg3.size)
  clear ho3 hg3 hg2 hs2 hc2 hmI hmI2 hpu hlu
  go_wp2_with fail
  refine (l1Once_any g 3 w3 hc3 (by omega)).mono ?_
  rintro e w4 ⟨bb, rfl, hc4, hg4⟩
  have HU4 := Lib.hid (HU3.out.gk hg4 hgl)
  have HB4 := Lib.hid (belowG HB3.out hg4 hgle HB3.out.size)
  have HZ4 := Lib.hid (Nat.le_trans HZ3.out hg4.size)
  clear hg4 hc3 HU3 HZ3
  cases bb with
  | false =>
    have HC4 := Lib.hid hc4
    clear hc4
    go_wp2_with fail
    refine (dPerm_any g n3 w4 HC4.out hm1 (by omega)).mono ?_
    rintro e w5 ⟨vs, ⟨A5, n5, c5, rfl, ho5, hc5, hg5⟩, hpv, hlv⟩
    have en5 : n5 = n3 := by have := ho5.len; omega
    subst en5
    have HV : Hid (Own w5 w.heap.size w5.heap.size A5 n5 c5 vs) := Lib.hid (ho5.wide HB4.out.size (Nat.le_refl _))
    have HU : Hid (Own w5 w.heap.size w5.heap.size A3 n5 c3 us) := Lib.hid ((HU4.out.gk hg5 hgl).wide HB1.out.size (Nat.le_refl _))
    have HB5 := Lib.hid (belowG HB4.out hg5 hgle HB4.out.size)
    have HPV := Lib.hid hpv
    clear ho5 hg5 hpv hlv hc5
    go_wp2
    go_ret2
    exact ⟨us, vs, A3, A5, n5, c3, c5, rfl, HU.out, HV.out, HPU.out, HPV.out, hm5, HB5.out⟩
  | true =>
    go_wp2_with fail
    refine (dReduced_any g n3 c3 A3 us w4 hc4 HU4.out.si HPU.out hm5 hcap3).mono ?_
    rintro e w5 ⟨ws, ⟨A5, n5, c5, rfl, ho5, hc5, hg5⟩, hword⟩
    have HW5 : Hid (Own w5 w1.heap.size w5.heap.size A5 n5 c5 ws) := Lib.hid (ho5.wide HZ4.out (Nat.le_refl _))
    have HU5 := Lib.hid (HU4.out.gk hg5 hgl)
    have HB5 := Lib.hid (belowG HB4.out hg5 hgle HB4.out.size)
    have HWd := Lib.hid hword
    have hn60 : n5 ≤ 60 := by have := hword.2.2.1; have := ho5.len; omega
    have HZ5 := Lib.hid (Nat.le_trans HZ4.out hg5.size)
    have HC5 := Lib.hid hc5
    clear ho5 hg5 hword hc4 hc5 HU4 HB4 HZ4
    go_wp2
    have hgl5 : g < w5.heap.size := Nat.lt_of_lt_of_le hgl HZ5.out
    go_loopw [8, 9] (fun v i wr => ∃ (k q : Nat) (A6 : Option Addr) (c6 : Nat) (ps : List Int), k ≤ n5 ∧ q ≤ k ∧ i = .int .i64 k ∧ v = .slice A6 q c6 ∧ Own wr w5.heap.size wr.heap.size A6 q c6 ps ∧ (∀ j, j < q → 0 ≤ nth ps j ∧ nth ps j ≤ (n3 : Int) - 2) ∧
        Own wr w1.heap.size w5.heap.size A5 n5 c5 ws ∧ Own wr w1.heap.size w5.heap.size A3 n3 c3 us ∧ Cu wr g ∧ w5.heap.size ≤ wr.heap.size ∧ Below w.heap.size w wr)
      (fun _ i _ => n5 - (intOf i).toNat)
    case atStart =>
      have hba := Below.alloc_self w5 (.cells #[] 3)
      refine ⟨0, 0, _, _, [], Nat.zero_le _, Nat.le_refl _, rfl, rfl, (Own.empty w5).wide (Nat.le_refl _) (by simp), fun j hj => absurd hj (by omega), HW5.out.below hba (Nat.le_refl _), HU5.out.below hba (Nat.le_refl _), HC5.out.below hba HC5.out.lt, hba.size, HB5.out.trans (hba.mono HB5.out.size)⟩
    case round =>
      obtain ⟨k, q, A6, c6, ps, hk, hqk, rfl, rfl, hop, hps, how, hou, hcu, hz, hbel⟩ := hrel
      have HP6 := Lib.hid hop
      have HPs := Lib.hid hps
      have HW6 := Lib.hid how
      have HU6 := Lib.hid hou
      have HC6 := Lib.hid hcu
      have HZ6 := Lib.hid hz
      have HB6 := Lib.hid hbel
      clear hop hps how hou hcu hz hbel HW5 HU5 HC5 HB5
      by_cases hlt : k < n5
      · go_wp2_with fail
        refine (l1Once_any g 3 wr HC6.out (by omega)).mono ?_
        rintro e w7 ⟨b7, rfl, hc7, hg7⟩
        have HP7 := Lib.hid (HP6.out.gk hg7 hgl5)
        have hw7 := HW6.out.grown hg7 (by rintro k0 ⟨⟩; exact .inl hgl)
        have HU7 := Lib.hid (HU6.out.grown hg7 (by rintro k0 ⟨⟩; exact .inl hgl))
        have HC7 := Lib.hid hc7
        have HZ7 := Lib.hid (Nat.le_trans HZ6.out hg7.size)
        have HB7 := Lib.hid (belowG HB6.out hg7 hgle HB6.out.size)
        have HW7 := Lib.hid hw7
        obtain ⟨g5, hA5, _, _⟩ := hw7.place (by omega)
        subst hA5
        have hcell := hw7.cellAt hlt
        obtain ⟨he0, he1⟩ := HWd.out.2.2.2 k (by have := hw7.len; omega)
        obtain ⟨x, hx⟩ : ∃ x, x = nth ws k := ⟨_, rfl⟩
        rw [← hx] at hcell he0 he1
        clear hc7 hg7 hw7 hx HP6 HW6 HU6 HC6 HZ6 HB6
        cases b7 with
        | true =>
          go_wp2
          go_roundw
          case rel => exact ⟨k + 1, q, A6, c6, ps, by omega, by omega, by go_num, rfl, HP7.out, HPs.out, HW7.out, HU7.out, HC7.out, HZ7.out, HB7.out⟩
          case measure => simp [intOf]; omega
        | false =>
          go_wp2_with (at_builtin; refine wpList_append1 rfl (.tmp 33) (.tmp 38) rfl w5.heap.size A6 q c6 ps x rfl rfl HP7.out HZ7.out (by omega) ?_; intro A' c' w8 ho8 hg8 hb8)
          go_roundw
          case rel =>
            refine ⟨k + 1, q + 1, A', c', ps ++ [x], by omega, by omega, by go_num, rfl, ho8, fun j hj => ?_, HW7.out.below hb8 (Nat.le_refl _), HU7.out.below hb8 (Nat.le_refl _), HC7.out.below hb8 hgl5, Nat.le_trans HZ7.out hb8.size, HB7.out.trans (hb8.mono (Nat.le_trans HB1.out.size HZ5.out))⟩
            have hpl := HP7.out.len
            rcases Nat.lt_or_ge j q with hj1 | hj1
            · rw [nth_snoc_lt (by omega)]; exact HPs.out j hj1
            · have e : j = q := by omega
              subst e
              have : nth (ps ++ [x]) j = x := by rw [← hpl]; exact nth_snoc_eq
              omega
          case measure => simp [intOf]; omega
      · have hkn : k = n5 := by omega
        subst hkn
        go_wp2_with fail
        refine (l1Once_any g 2 wr HC6.out (by omega)).mono ?_
        rintro e w7 ⟨b7, rfl, hc7, hg7⟩
        have HP7 := Lib.hid (HP6.out.gk hg7 hgl5)
        have HU7 := Lib.hid ((HU6.out.grown hg7 (by rintro k0 ⟨⟩; exact .inl hgl)).wide (Nat.le_refl _) (Nat.le_trans HZ6.out hg7.size))
        have HB7 := Lib.hid (belowG HB6.out hg7 hgle HB6.out.size)
        have HWP : Hid (wordP (n3 : Int) ps) := Lib.hid ⟨by omega, by omega, by have := HP6.out.len; omega, by rw [HP6.out.len]; exact HPs.out⟩
        clear hc7 hg7 HP6 HW6 HU6 HC6 HZ6 HB6
        go_wp2_with fail
        refine (l1Play_any n3 b7 A6 q c6 ps w7 HP7.out.si HWP.out).mono ?_
        rintro e w8 ⟨A8, n8, c8, rfl, ho8, hb8⟩
        have en8 : n8 = n3 := by have := ho8.len; rw [List.length_take, playL_len] at this; omega
        subst en8
        have HO8 : Hid (Own w8 w.heap.size w8.heap.size A8 n8 c8 _) := Lib.hid (ho8.wide HB7.out.size (Nat.le_refl _))
        have HU8 : Hid (Own w8 w.heap.size w8.heap.size A3 n8 c3 us) := Lib.hid ((HU7.out.bk hb8).wide HB1.out.size (Nat.le_refl _))
        have HB8 := Lib.hid (HB7.out.trans (hb8.mono HB7.out.size))
        have hpl := HP7.out.len
        have HPP := Lib.hid (play_perm HWP.out hm5 b7 q (by omega))
        clear ho8 hb8
        go_wp2
        go_ret2
        exact ⟨_, us, A8, A3, n8, c8, c3, rfl, HO8.out, HU8.out, HPP.out, HPU.out, hm5, HB8.out⟩
end Go.Proofs.Ythmnaakaogpohaa

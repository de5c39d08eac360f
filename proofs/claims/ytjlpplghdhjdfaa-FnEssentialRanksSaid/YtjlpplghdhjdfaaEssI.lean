/-
  Essential cells: the program's side. Conditions: lengths below 2^40.
-/
import Derived.Test.YtjlpplghdhjdfaaEss
namespace Go.Proofs.Ytjlpplghdhjdfaa
open Go.RowKit

set_option maxRecDepth 100000 in
set_option maxHeartbeats 1600000 in
theorem implEssential_any (A : Option Addr) (n c : Nat) (xs : List Int) (w : World) (hs : SI w A n xs) (hn : n ≤ 1099511627776) :
    Calls Try.prog 32 #[.slice A n c] w fun e w' => FreshC w w' e (essPerm xs) := by
  have hD := implDiagram_any A n c xs w hs hn
  have HD := Lib.hid hD
  have HM := Lib.hid (fun x (h : x ∈ diaPerm xs) => diaPerm_mem h)
  have HS := Lib.hid (diaPerm_small xs)
  have HE : Hid (essPerm xs = essL (diaPerm xs) (diaPerm xs).length) := Lib.hid rfl
  clear hD hs
  obtain ⟨cs, hcs⟩ : ∃ cs, cs = diaPerm xs := ⟨_, rfl⟩
  rw [← hcs] at HD HM HS HE
  clear hcs
  go_enter Try.func32, Try.ntmps32
  go_wp2_with fail
  refine HD.out.mono ?_
  rintro e w1 ⟨Al, nl, cl, rfl, hol, hbl⟩
  have HL := Lib.hid hol.len
  have hl49 : nl ≤ 49 := by have := HL.out; have := HS.out; omega
  have HSL := Lib.hid hol.si
  have HBL := Lib.hid hbl
  clear hol hbl
  go_wp2
  go_loopw [4, 13] (fun v i wr => ∃ (k m : Nat) (A' : Option Addr) (c' : Nat), k ≤ nl ∧ i = .int .i64 k ∧ v = .slice A' m c' ∧ OwnC wr w1.heap.size wr.heap.size A' m c' (essL cs k) ∧ Below w1.heap.size w1 wr)
    (fun _ i _ => nl - (intOf i).toNat)
  case atStart => exact ⟨0, 0, _, _, Nat.zero_le _, rfl, rfl, OwnC.nil _ _ _, Below.refl _ _⟩
  case round =>
    obtain ⟨k, m, A', c', hk, rfl, rfl, hoc, hbel⟩ := hrel
    have HOC := Lib.hid hoc
    have HB := Lib.hid hbel
    have hsl := HSL.out.below hbel (Nat.le_refl _)
    have hml : m ≤ 1099511627776 := by have h1 := hoc.len; have h2 := essL_len cs k; omega
    clear hoc hbel
    by_cases hlt : k < nl
    · have hlI : (k : Int) < (nl : Int) := by omega
      obtain ⟨b, o, rfl, hb, hc0, hc1⟩ := hsl.at_ hlt
      obtain ⟨hp0, hp1, hq0, hq1⟩ := HM.out (ce cs k) (ce_mem (by rw [HL.out]; exact hlt))
      have hit := essL_hit (cs := cs) (k := k)
      have miss := essL_miss (cs := cs) (k := k)
      obtain ⟨p, hp⟩ : ∃ p, p = (ce cs k).1 := ⟨_, rfl⟩
      obtain ⟨q, hq⟩ : ∃ q, q = (ce cs k).2 := ⟨_, rfl⟩
      have hpq : ce cs k = (p, q) := by rw [hp, hq]
      rw [← hp] at hc0 hp0 hp1
      rw [← hq] at hc1 hq0 hq1
      rw [hpq] at hit miss
      have HIT := Lib.hid hit
      have MISS := Lib.hid miss
      obtain ⟨wa, hwa⟩ : ∃ wa, wa = ((wr.alloc (.cells #[.int .i64 p, .int .i64 q] 46)).alloc (.cells #[.int .i64 (p + 1), .int .i64 q] 46)).alloc (.cells #[.int .i64 p, .int .i64 (q + 1)] 46) := ⟨_, rfl⟩
      have hba : Below wr.heap.size wr wa := by rw [hwa]; go_grown
      have hk1 : Blk wa wr.heap.size 46 #[.int .i64 p, .int .i64 q] := by rw [hwa]; exact ((Blk.new wr _ _).alloc _).alloc _
      have hk2 : Blk wa (wr.heap.size + 1) 46 #[.int .i64 (p + 1), .int .i64 q] := by
        rw [hwa]
        have := (Blk.new (wr.alloc (.cells #[.int .i64 p, .int .i64 q] 46)) 46 #[.int .i64 (p + 1), .int .i64 q]).alloc (.cells #[.int .i64 p, .int .i64 (q + 1)] 46)
        simpa using this
      have hk3 : Blk wa (wr.heap.size + 1 + 1) 46 #[.int .i64 p, .int .i64 (q + 1)] := by
        rw [hwa]
        have := Blk.new ((wr.alloc (.cells #[.int .i64 p, .int .i64 q] 46)).alloc (.cells #[.int .i64 (p + 1), .int .i64 q] 46)) 46 #[.int .i64 p, .int .i64 (q + 1)]
        simpa using this
      have hsa := hsl.below hba (Nat.le_refl _)
      have C1 := containsC_any (some ⟨b, o, none⟩) nl cl cs (p + 1) q wa hsa (by omega)
      have HSA := Lib.hid hsa
      have HBA := Lib.hid hba
      have HK1 := Lib.hid hk1
      have HK2 := Lib.hid hk2
      have HK3 := Lib.hid hk3
      have HW := Lib.hid hwa
      rw [hwa] at C1
      have HC1 := Lib.hid C1
      clear hwa hba hsa C1 hsl hit miss hp hq hpq hk1 hk2 hk3
      go_wp2_with fail
      refine HC1.out.mono ?_
      rw [← HW.out]
      rintro e w3 ⟨rfl, hb3⟩
      have k1 := HK1.out.below hb3 HK1.out.lt
      have k3 := HK3.out.below hb3 HK3.out.lt
      have hd0 : w3.cell? ⟨wr.heap.size, 0, none⟩ = some (.int .i64 p) := k1.cell 0
      have hd1 : w3.cell? ⟨wr.heap.size, 1, none⟩ = some (.int .i64 q) := k1.cell 1
      have he0 : w3.cell? ⟨wr.heap.size + 1 + 1, 0, none⟩ = some (.int .i64 p) := k3.cell 0
      have he1 : w3.cell? ⟨wr.heap.size + 1 + 1, 1, none⟩ = some (.int .i64 (q + 1)) := k3.cell 1
      have hbw : Below wr.heap.size wr w3 := HBA.out.trans (hb3.mono HBA.out.size)
      have J1 := Lib.hid k1
      have HBW := Lib.hid hbw
      have C2 := containsC_any (some ⟨b, o, none⟩) nl cl cs p (q + 1) w3 (HSA.out.below hb3 (Nat.le_refl _)) (by omega)
      have HC2 := Lib.hid C2
      clear k1 k3 hbw C2 hb3 HC1 hc0 hc1
      cases h1 : hasC cs (p + 1, q) with
      | true =>
        have HX := Lib.hid (MISS.out (.inl h1))
        clear h1
        go_wp2
        go_roundw
        case rel => exact ⟨k + 1, m, A', c', by omega, by go_num, rfl, by rw [HX.out]; exact (HOC.out.below HBW.out (Nat.le_refl _)).wide (Nat.le_refl _) HBW.out.size, HB.out.trans (HBW.out.mono HB.out.size)⟩
        case measure => simp [intOf]; omega
      | false =>
        have H1 := Lib.hid h1
        clear h1
        go_wp2_with fail
        refine HC2.out.mono ?_
        rintro e w4 ⟨rfl, hb4⟩
        have k4 := J1.out.below hb4 J1.out.lt
        have hd0 : w4.cell? ⟨wr.heap.size, 0, none⟩ = some (.int .i64 p) := k4.cell 0
        have hd1 : w4.cell? ⟨wr.heap.size, 1, none⟩ = some (.int .i64 q) := k4.cell 1
        have hbw : Below wr.heap.size wr w4 := HBW.out.trans (hb4.mono HBW.out.size)
        have HBX := Lib.hid hbw
        clear k4 hbw hb4 HC2
        cases h2 : hasC cs (p, q + 1) with
        | true =>
          have HX := Lib.hid (MISS.out (.inr h2))
          clear h2
          go_wp2
          go_roundw
          case rel => exact ⟨k + 1, m, A', c', by omega, by go_num, rfl, by rw [HX.out]; exact (HOC.out.below HBX.out (Nat.le_refl _)).wide (Nat.le_refl _) HBX.out.size, HB.out.trans (HBX.out.mono HB.out.size)⟩
          case measure => simp [intOf]; omega
        | false =>
          have HX := Lib.hid (HIT.out H1.out h2)
          clear h2
          have HO4 := Lib.hid ((HOC.out.below HBX.out (Nat.le_refl _)).wide (Nat.le_refl _) HBX.out.size)
          go_wp2_with (at_builtin; refine wpList_appendC rfl (.tmp 39) (.tmp 41) rfl w1.heap.size A' m c' (essL cs k) p q rfl rfl HO4.out (Nat.le_trans HB.out.size HBX.out.size) hml ?_; intro A2 c2 w6 ho6 hb6 hg6 hn6)
          go_roundw
          case rel => exact ⟨k + 1, m + 1, A2, c2, by omega, by go_num, rfl, by rw [HX.out]; exact ho6, (HB.out.trans (HBX.out.mono HB.out.size)).trans hb6⟩
          case measure => simp [intOf]; omega
    · have hkn : k = nl := by omega
      subst hkn
      go_wp2
      go_ret
      refine ⟨A', m, c', rfl, ?_, HBL.out.trans (HB.out.mono HBL.out.size)⟩
      rw [HE.out, HL.out]
      exact HOC.out.wide HBL.out.size (Nat.le_refl _)
end Go.Proofs.Ytjlpplghdhjdfaa

/-
  Copies of puzzles, the document's side; new puzzles, the program's. Conditions: lengths below 2^40.
-/
import Derived.Test.YtdappakjbclffaaRotM
namespace Go.Proofs.Ytdappakjbclffaa
open Go.RowKit

abbrev zeroPz : Array Value := #[.int .i64 0, .slice none 0 0, .slice none 0 0, .slice none 0 0]
theorem frozen4 {w : World} {g : Nat} {t : TypeId} {cs : Array Value} (h : Blk w g t cs) : w.frozen? ⟨g, 0, none⟩ = false ∧ w.frozen? ⟨g, 1, none⟩ = false ∧ w.frozen? ⟨g, 2, none⟩ = false ∧ w.frozen? ⟨g, 3, none⟩ = false := ⟨h.frozen 0, h.frozen 1, h.frozen 2, h.frozen 3⟩
theorem Blk.put4 {w : World} {g : Nat} {t : TypeId} {a b c d : Value} (h : Blk w g t #[a, b, c, d]) (a' b' c' d' : Value) : Blk ((((w.setCell ⟨g, 0, none⟩ a').setCell ⟨g, 1, none⟩ b').setCell ⟨g, 2, none⟩ c').setCell ⟨g, 3, none⟩ d') g t #[a', b', c', d'] := (((h.set_ 0 a').set_ 1 b').set_ 2 c').set_ 3 d'
theorem grown_put4 (w : World) (g : Nat) (a b c d : Value) : w.grownBy ((((w.setCell ⟨g, 0, none⟩ a).setCell ⟨g, 1, none⟩ b).setCell ⟨g, 2, none⟩ c).setCell ⟨g, 3, none⟩ d) (some g) :=
  (((grown_setP w ⟨g, 0, none⟩ a).trans (grown_setP _ ⟨g, 1, none⟩ b)).trans (grown_setP _ ⟨g, 2, none⟩ c)).trans (grown_setP _ ⟨g, 3, none⟩ d)
theorem OwnP.kept_ {w w' : World} {lo hi q n1 c1 n2 c2 n3 c3 : Nat} {A1 A2 A3 : Option Addr} {x1 x2 x3 : List Int} (h : OwnP w lo hi A1 A2 A3 n1 c1 n2 c2 n3 c3 x1 x2 x3) (hg : w.grownBy w' (some q)) (hq : q < lo ∨ hi ≤ q) : OwnP w' lo hi A1 A2 A3 n1 c1 n2 c2 n3 c3 x1 x2 x3 := by
  obtain ⟨p, r, a, b, c, h1, h2, h3⟩ := h
  exact ⟨p, r, a, b, c, h1.grown hg (by rintro k ⟨⟩; omega), h2.grown hg (by rintro k ⟨⟩; omega), h3.grown hg (by rintro k ⟨⟩; omega)⟩
set_option maxRecDepth 100000 in
set_option maxHeartbeats 2000000 in
theorem l5Copy_any (s : Int) (A1 A2 A3 : Option Addr) (n1 c1 n2 c2 n3 c3 : Nat) (x1 x2 x3 : List Int) (w : World) (h : PS w A1 A2 A3 n1 n2 n3 x1 x2 x3) (hn : n1 ≤ 1099511627776 ∧ n2 ≤ 1099511627776 ∧ n3 ≤ 1099511627776) :
    Calls Try.prog 75 #[.agg #[.int .i64 s, .slice A1 n1 c1, .slice A2 n2 c2, .slice A3 n3 c3]] w fun e w' => FreshP w w' e s x1 x2 x3 := by
  obtain ⟨w1, hw1⟩ : ∃ w1, w1 = (w.alloc (.cells #[.int .i64 s, .slice A1 n1 c1, .slice A2 n2 c2, .slice A3 n3 c3] 35)).alloc (.cells #[.int .i64 0, .slice none 0 0, .slice none 0 0, .slice none 0 0] 35) := ⟨_, rfl⟩
  obtain ⟨g, hg⟩ : ∃ g, g = w.heap.size := ⟨_, rfl⟩
  have hk : Blk w1 g 35 #[.int .i64 s, .slice A1 n1 c1, .slice A2 n2 c2, .slice A3 n3 c3] := by rw [hw1, hg]; exact (Blk.new _ _ _).alloc _
  have hk2 : Blk w1 (g + 1) 35 #[.int .i64 0, .slice none 0 0, .slice none 0 0, .slice none 0 0] := by
    rw [hw1, hg]
    have := Blk.new (w.alloc (.cells #[.int .i64 s, .slice A1 n1 c1, .slice A2 n2 c2, .slice A3 n3 c3] 35)) 35 #[.int .i64 0, .slice none 0 0, .slice none 0 0, .slice none 0 0]
    simpa using this
  have hb : Below w.heap.size w w1 := by rw [hw1]; go_grown
  have hs := h.below hb (Nat.le_refl _)
  have HS : Hid (SI w1 A1 n1 x1 ∧ SI w1 A2 n2 x2 ∧ SI w1 A3 n3 x3) := Lib.hid hs
  have HB1 := Lib.hid hb
  have HW := Lib.hid hw1
  have HG := Lib.hid hg
  have HK := Lib.hid hk
  have HK2 := Lib.hid hk2
  have HN := Lib.hid hn
  have HSZ : Hid (w1.heap.size = g + 1 + 1) := Lib.hid (by rw [hw1, hg]; simp)
  have hqd : w1.drew.cell? ⟨g, 0, none⟩ = some (.int .i64 s) ∧ w1.drew.cell? ⟨g, 1, none⟩ = some (.slice A1 n1 c1) ∧ w1.drew.cell? ⟨g, 2, none⟩ = some (.slice A2 n2 c2) ∧ w1.drew.cell? ⟨g, 3, none⟩ = some (.slice A3 n3 c3) := cells4 hk
  have HQD := Lib.hid hqd
  have HQ := Lib.hid (cells4 hk)
  have HC1 := Lib.hid (fun w' (hb' : Below w1.heap.size w1 w') => l1Ints_any A1 n1 c1 x1 w' (HS.out.1.below hb' (Nat.le_refl _)) HN.out.1)
  have HC2 := Lib.hid (fun w' (hb' : Below w1.heap.size w1 w') => l1Ints_any A2 n2 c2 x2 w' (HS.out.2.1.below hb' (Nat.le_refl _)) HN.out.2.1)
  have HC3 := Lib.hid (fun w' (hb' : Below w1.heap.size w1 w') => l1Ints_any A3 n3 c3 x3 w' (HS.out.2.2.below hb' (Nat.le_refl _)) HN.out.2.2)
  clear hw1 hg hk hk2 hb hs h hn hqd
  go_enter Try.func75, Try.ntmps75
  go_upto_region 1 with fail
  rw [← HW.out, ← HG.out]
  go_region_held3 (fun w' => w'.cell? ⟨g, 0, none⟩ = some (.int .i64 s) ∧ w'.cell? ⟨g, 1, none⟩ = some (.slice A1 n1 c1) ∧ w'.cell? ⟨g, 2, none⟩ = some (.slice A2 n2 c2) ∧ w'.cell? ⟨g, 3, none⟩ = some (.slice A3 n3 c3))
    (first | exact HQD.out | exact HQ.out | exact K4 | exact K5 | exact K6 | exact KZ)
    (first
      | (go_at_call 110
         with_reducible refine (HC3.out _ HB5.out).mono ?_
         rintro e w6 ⟨B3, m3, d3, rfl, ho6, hb6⟩
         have HB6 : Hid (Below w1.heap.size w1 w6) := Lib.hid (HB5.out.trans (hb6.mono HB5.out.size))
         have HK6 := Lib.hid (HK.out.below HB6.out HK.out.lt)
         have K6 := cells4 HK6.out
         have HR6 := Lib.hid (HK2.out.below HB6.out HK2.out.lt)
         obtain ⟨rr0, rr1, rr2, rr3⟩ := cells4 HR6.out
         obtain ⟨ff0, ff1, ff2, ff3⟩ := frozen4 HR6.out
         have KZ := cells4 ((((HK6.out.far (p := ⟨g + 1, 0, none⟩) (by show g ≠ g + 1; omega) (.int .i64 s)).far (p := ⟨g + 1, 1, none⟩) (by show g ≠ g + 1; omega) (.slice B1 m1 d1)).far (p := ⟨g + 1, 2, none⟩) (by show g ≠ g + 1; omega) (.slice B2 m2 d2)).far (p := ⟨g + 1, 3, none⟩) (by show g ≠ g + 1; omega) (.slice B3 m3 d3))
         have HO6 : Hid (OwnP w6 w1.heap.size w6.heap.size B1 B2 B3 m1 d1 m2 d2 m3 d3 x1 x2 x3) := Lib.hid ⟨w4.heap.size, w5.heap.size, HB4.out.size, HS45.out, hb6.size, (HO4.out.below HB45.out (Nat.le_refl _)).below hb6 HS45.out, HO5.out.below hb6 (Nat.le_refl _), ho6⟩
         clear ho6 hb6)
      | (go_at_call 110
         with_reducible refine (HC2.out _ HB4.out).mono ?_
         rintro e w5 ⟨B2, m2, d2, rfl, ho5, hb5⟩
         have HB5 : Hid (Below w1.heap.size w1 w5) := Lib.hid (HB4.out.trans (hb5.mono HB4.out.size))
         have K5 := cells4 (HK.out.below HB5.out HK.out.lt)
         have HO5 := Lib.hid ho5
         have HB45 := Lib.hid hb5
         have HS45 := Lib.hid hb5.size
         clear ho5 hb5)
      | (go_at_call 110
         with_reducible refine (HC1.out _ ((Below.refl _ _).drew)).mono ?_
         rintro e w4 ⟨B1, m1, d1, rfl, ho4, hb4⟩
         have hb4' : Below w1.heap.size w1 w4 := ((Below.refl _ _).drew).trans hb4
         have K4 := cells4 (HK.out.below hb4' HK.out.lt)
         have HO4 : Hid (Own w4 w1.heap.size w4.heap.size B1 m1 d1 x1) := Lib.hid ho4
         have HB4 := Lib.hid hb4'
         clear ho4 hb4 hb4')
      | fail)
  all_goals
    (go_wp2
     refine bodyPost_ret (results_rowP Try.results75 _ _ (g + 1) 35 #[.int .i64 s, .slice B1 m1 d1, .slice B2 m2 d2, .slice B3 m3 d3] _ rfl (HR6.out.put4 _ _ _ _) Try.underlying35 rfl Try.infoPz) rfl ?_
     have hgz := grown_put4 w6 (g + 1) (.int .i64 s) (.slice B1 m1 d1) (.slice B2 m2 d2) (.slice B3 m3 d3)
     have l1 := HSZ.out
     have l2 := HG.out
     have l3 := hgz.size
     have l4 := HB6.out.size
     exact ⟨B1, B2, B3, m1, d1, m2, d2, m3, d3, rfl, (HO6.out.kept_ hgz (.inl (by omega))).wide (by omega) l3, (HB1.out.trans (HB6.out.mono (by omega))).grown hgz (by omega) (by rintro k ⟨⟩; omega)⟩)
end Go.Proofs.Ytdappakjbclffaa

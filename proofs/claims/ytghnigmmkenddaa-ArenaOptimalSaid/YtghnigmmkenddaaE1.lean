/- The examples. -/
import Derived.Test.YtghnigmmkenddaaC7
import Derived.Test.YtghnigmmkenddaaC5
import Derived.Test.YtghnigmmkenddaaC4
namespace Go.Proofs.Ytghnigmmkenddaa.Ar
open Go.ChangeShapes Go.WideShapes Go.ChangeAt Go.RowKit
open Go.Proofs.Ytghnigmmkenddaa.Lv Go.Proofs.Ytghnigmmkenddaa.Nm
set_option linter.unusedVariables false
set_option linter.unusedSimpArgs false

def one : List Lf := [((⟨#[97]⟩ : ByteArray), 0, 1, 4), ((⟨#[98]⟩ : ByteArray), 2, 3, 4)]
def two : List Lf := [((⟨#[97]⟩ : ByteArray), 0, 2, 4), ((⟨#[98]⟩ : ByteArray), 2, 3, 4)]
def tws : List St := [((⟨#[97]⟩ : ByteArray), 0, 4), ((⟨#[98]⟩ : ByteArray), 0, 4)]
theorem pl1 : (plF one).1.length = 2 ∧ (plF one).2 = (4, 0) ∧ ((plF one).1.getD 1 st0).2.1 = 0 := by decide +kernel
theorem pl2 : (plF two).1.length = 2 ∧ (plF two).2 = (8, 0) ∧ ((plF two).1.getD 0 st0).2.1 = 0 ∧ ((plF two).1.getD 1 st0).2.1 = 4 := by decide +kernel
theorem ck2 : ckF two tws 8 = (1, 21) := by decide +kernel
theorem lb2 : lbF two = 8 := by decide +kernel
theorem vE2 : vE two = 0 := by decide +kernel
theorem fz2 : ffz two [0, 1] = 8 ∧ ffz two [1, 0] = 8 := by decide +kernel
theorem perm2 {s : List Nat} (h : s.Perm [0, 1]) : s = [0, 1] ∨ s = [1, 0] := by
  have hl := h.length_eq
  match s, hl with
  | [a, b], _ =>
    have h0 := h.mem_iff.2 (show 0 ∈ [0, 1] by simp)
    have h1 := h.mem_iff.2 (show 1 ∈ [0, 1] by simp)
    simp at h0 h1
    rcases h0 with rfl | rfl <;> rcases h1 with h1 | h1
    · cases h1
    · subst h1; exact .inl rfl
    · subst h1; exact .inr rfl
    · cases h1
theorem op2 {r er : Int} (h : OptP two r er) : r = 8 ∧ er = 0 := by
  rcases h with ⟨a, _⟩ | ⟨_, a, _⟩ | ⟨_, _, c, d⟩
  · exact absurd vE2 a
  · exact absurd a (by decide)
  · refine ⟨?_, c⟩
    have h0 := (d.1 _ (List.Perm.refl _)).1
    rcases d.2.1 with e | ⟨s, hs, e⟩
    · omega
    · rcases perm2 hs with rfl | rfl
      · rw [e]; exact fz2.1
      · rw [e]; exact fz2.2
theorem sl2 {w : World} {b : Nat} {xs : List Lf} (x y : Lf) (he : xs = [x, y]) (h : w.cell? ⟨b, 0, none⟩ = some (.string x.1) ∧ w.cell? ⟨b, 1, none⟩ = some (.int .i64 x.2.1) ∧ w.cell? ⟨b, 2, none⟩ = some (.int .i64 x.2.2.1) ∧ w.cell? ⟨b, 3, none⟩ = some (.int .i64 x.2.2.2) ∧ w.cell? ⟨b, 4, none⟩ = some (.string y.1) ∧ w.cell? ⟨b, 5, none⟩ = some (.int .i64 y.2.1) ∧ w.cell? ⟨b, 6, none⟩ = some (.int .i64 y.2.2.1) ∧ w.cell? ⟨b, 7, none⟩ = some (.int .i64 y.2.2.2)) : SlL w (some ⟨b, 0, none⟩) xs := by
  subst he
  obtain ⟨h0, h1, h2, h3, h4, h5, h6, h7⟩ := h
  intro i hi
  match i, hi with
  | 0, _ => exact ⟨b, 0, rfl, h0, h1, h2, h3⟩
  | 1, _ => exact ⟨b, 0, rfl, h4, h5, h6, h7⟩
theorem sl3 {w : World} {b : Nat} {xs : List St} (x y : St) (he : xs = [x, y]) (h : w.cell? ⟨b, 0, none⟩ = some (.string x.1) ∧ w.cell? ⟨b, 1, none⟩ = some (.int .i64 x.2.1) ∧ w.cell? ⟨b, 2, none⟩ = some (.int .i64 x.2.2) ∧ w.cell? ⟨b, 3, none⟩ = some (.string y.1) ∧ w.cell? ⟨b, 4, none⟩ = some (.int .i64 y.2.1) ∧ w.cell? ⟨b, 5, none⟩ = some (.int .i64 y.2.2)) : SlS w (some ⟨b, 0, none⟩) xs := by
  subst he
  obtain ⟨h0, h1, h2, h3, h4, h5⟩ := h
  intro i hi
  match i, hi with
  | 0, _ => exact ⟨b, 0, rfl, h0, h1, h2⟩
  | 1, _ => exact ⟨b, 0, rfl, h3, h4, h5⟩
theorem szs1 : ∀ i, i < one.length → (one.getD i lf0).1.size ≤ maxLen := by decide +kernel
theorem szs2 : ∀ i, i < two.length → (two.getD i lf0).1.size ≤ maxLen := by decide +kernel
set_option maxRecDepth 100000 in
set_option maxHeartbeats 8000000 in
/-- The chapter's examples. -/
theorem examplesC (w : World) : Calls Try.prog 9 #[] w fun e w' => e = .returned (.bool true) ∧ Below w.heap.size w w' := by
  have A1 : Hid (SlL ((w.alloc (Obj.cells #[.string ⟨#[97]⟩, .int .i64 0, .int .i64 1, .int .i64 4, .string ⟨#[98]⟩, .int .i64 2, .int .i64 3, .int .i64 4] 37)).alloc (Obj.cells #[.string ⟨#[97]⟩, .int .i64 0, .int .i64 2, .int .i64 4, .string ⟨#[98]⟩, .int .i64 2, .int .i64 3, .int .i64 4] 37)) (some ⟨w.heap.size, 0, none⟩) one) := Lib.hid (sl2 ((⟨#[97]⟩ : ByteArray), 0, 1, 4) ((⟨#[98]⟩ : ByteArray), 2, 3, 4) rfl ⟨by go_cell, by go_cell, by go_cell, by go_cell, by go_cell, by go_cell, by go_cell, by go_cell⟩)
  have A2 : Hid (SlL ((w.alloc (Obj.cells #[.string ⟨#[97]⟩, .int .i64 0, .int .i64 1, .int .i64 4, .string ⟨#[98]⟩, .int .i64 2, .int .i64 3, .int .i64 4] 37)).alloc (Obj.cells #[.string ⟨#[97]⟩, .int .i64 0, .int .i64 2, .int .i64 4, .string ⟨#[98]⟩, .int .i64 2, .int .i64 3, .int .i64 4] 37)) (some ⟨w.heap.size + 1, 0, none⟩) two) := Lib.hid (sl2 ((⟨#[97]⟩ : ByteArray), 0, 2, 4) ((⟨#[98]⟩ : ByteArray), 2, 3, 4) rfl ⟨by go_cell, by go_cell, by go_cell, by go_cell, by go_cell, by go_cell, by go_cell, by go_cell⟩)
  have B0 : Hid (Below w.heap.size w ((w.alloc (Obj.cells #[.string ⟨#[97]⟩, .int .i64 0, .int .i64 1, .int .i64 4, .string ⟨#[98]⟩, .int .i64 2, .int .i64 3, .int .i64 4] 37)).alloc (Obj.cells #[.string ⟨#[97]⟩, .int .i64 0, .int .i64 2, .int .i64 4, .string ⟨#[98]⟩, .int .i64 2, .int .i64 3, .int .i64 4] 37))) := Lib.hid (((Below.refl _ _).alloc (Nat.le_refl _) _).alloc (by simp) _)
  go_enter Try.func9, Try.ntmps9
  go_upto_region 3 with fail
  obtain ⟨w2, hw2⟩ : ∃ w2, w2 = ((w.alloc (Obj.cells #[.string ⟨#[97]⟩, .int .i64 0, .int .i64 1, .int .i64 4, .string ⟨#[98]⟩, .int .i64 2, .int .i64 3, .int .i64 4] 37)).alloc (Obj.cells #[.string ⟨#[97]⟩, .int .i64 0, .int .i64 2, .int .i64 4, .string ⟨#[98]⟩, .int .i64 2, .int .i64 3, .int .i64 4] 37)) := ⟨_, rfl⟩
  rw [← hw2] at A1 A2 B0 ⊢
  clear hw2
  have P1 := Lib.hid (planC (some ⟨w.heap.size, 0, none⟩) one 2 2 w2 (Lib.hid rfl) (by decide) A1 (Lib.hid szs1))
  rw [pl1.2.1, pl1.1] at P1
  go_upto_region 4 with (go_at_call 10; (with_reducible refine P1.out.mono ?_); rintro e w3 ⟨va, rfl, B3, O3⟩; have HO3 := Lib.hid O3; have HB3 := Lib.hid B3; have A3 := Lib.hid (A2.out.keep B3); clear B3 O3 P1)
  have P2 := Lib.hid (planC (some ⟨w.heap.size + 1, 0, none⟩) two 2 2 w3 (Lib.hid rfl) (by decide) A3 (Lib.hid szs2))
  rw [pl2.2.1, pl2.1] at P2
  go_upto_region 5 with (go_at_call 10; (with_reducible refine P2.out.mono ?_); rintro e w4 ⟨vb, rfl, B4, O4⟩; have HO4 := Lib.hid O4; have HB4 := Lib.hid B4; have A4 := Lib.hid (A3.out.keep B4); have HO3b := Lib.hid (own_belowE HO3.out B4); clear B4 O4 P2)
  have T4 : Hid (SlS (w4.alloc (Obj.cells #[.string ⟨#[97]⟩, .int .i64 0, .int .i64 4, .string ⟨#[98]⟩, .int .i64 0, .int .i64 4] 39)) (some ⟨w4.heap.size, 0, none⟩) tws) := Lib.hid (sl3 ((⟨#[97]⟩ : ByteArray), 0, 4) ((⟨#[98]⟩ : ByteArray), 0, 4) rfl ⟨by go_cell, by go_cell, by go_cell, by go_cell, by go_cell, by go_cell⟩)
  have B5 : Below w4.heap.size w4 (w4.alloc (Obj.cells #[.string ⟨#[97]⟩, .int .i64 0, .int .i64 4, .string ⟨#[98]⟩, .int .i64 0, .int .i64 4] 39)) := (Below.refl _ _).alloc (Nat.le_refl _) _
  have A5 := Lib.hid (A4.out.keep B5)
  have P3 := Lib.hid (checkC (some ⟨w.heap.size + 1, 0, none⟩) (some ⟨w4.heap.size, 0, none⟩) two tws 2 2 2 2 8 (w4.alloc (Obj.cells #[.string ⟨#[97]⟩, .int .i64 0, .int .i64 4, .string ⟨#[98]⟩, .int .i64 0, .int .i64 4] 39)) (Lib.hid rfl) (Lib.hid rfl) (by decide) (by decide) (by decide) A5 (Lib.hid szs2) T4 (Lib.hid (by decide +kernel)) (by decide) (by decide))
  rw [ck2] at P3
  have HB5 := Lib.hid B5
  clear B5
  go_upto_region 6 with (go_at_call 15; (with_reducible refine P3.out.mono ?_); rintro e w5 ⟨rfl, B6⟩; have HB6 := Lib.hid (HB5.out.trans (B6.mono (by simp))); have A6 := Lib.hid (A5.out.keep B6); clear B6 P3 A5 T4)
  have P4 := Lib.hid (optC (some ⟨w.heap.size + 1, 0, none⟩) two 2 2 w5 (Lib.hid rfl) (by decide) A6 (Lib.hid szs2))
  go_upto_region 7 with (go_at_call 17; (with_reducible refine P4.out.mono ?_); rintro e w6 ⟨⟨r, er, rfl, ho⟩, B7⟩; obtain ⟨rfl, rfl⟩ := op2 ho; have HB7 := Lib.hid (HB6.out.trans (B7.mono HB6.out.size)); have A7 := Lib.hid (A6.out.keep B7); clear ho B7 P4)
  have P5 := Lib.hid (lowC (some ⟨w.heap.size + 1, 0, none⟩) two 2 2 w6 (Lib.hid rfl) (by decide) A7 (Lib.hid szs2))
  rw [lb2] at P5
  have HO3c := own_belowE HO3b.out HB7.out
  have HO4c := own_belowE HO4.out HB7.out
  obtain ⟨qa, ca, rfl⟩ := own_slice HO3c
  obtain ⟨qb, cb, rfl⟩ := own_slice HO4c
  obtain ⟨ba, oa, rfl, _, a1, _⟩ := SlS_of HO3c pl1.1 1 (by rw [pl1.1]; decide)
  obtain ⟨bb, ob, rfl, _, b0, _⟩ := SlS_of HO4c pl2.1 0 (by rw [pl2.1]; decide)
  obtain ⟨bb', ob', e, _, b1, _⟩ := SlS_of HO4c pl2.1 1 (by rw [pl2.1]; decide)
  cases e
  rw [pl1.2.2] at a1
  rw [pl2.2.2.1] at b0
  rw [pl2.2.2.2] at b1
  have BF : Below w.heap.size w w6 := B0.out.trans ((HB3.out.trans ((HB4.out.trans (HB7.out.mono HB4.out.size)).mono HB3.out.size)).mono B0.out.size)
  have HBF := Lib.hid BF
  clear HO3c HO4c BF
  go_wp2_with (go_at_call 16; (with_reducible refine P5.out.mono ?_); rintro e w7 ⟨rfl, B8⟩)
  go_ret
  exact ⟨rfl, HBF.out.trans (B8.mono HBF.out.size)⟩
end Go.Proofs.Ytghnigmmkenddaa.Ar

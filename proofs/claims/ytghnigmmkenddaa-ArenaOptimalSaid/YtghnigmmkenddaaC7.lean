/- Optimal. -/
import Derived.Test.YtghnigmmkenddaaC6
import Derived.Laws.EntriesVeiled
namespace Go.Proofs.Ytghnigmmkenddaa.Ar
open Go.ChangeShapes Go.WideShapes Go.ChangeAt Go.RowKit
open Go.Proofs.Ytghnigmmkenddaa.Lv Go.Proofs.Ytghnigmmkenddaa.Nm
set_option linter.unusedVariables false
set_option linter.unusedSimpArgs false

theorem ordL_kI (kx : Int → Int) (n : Nat) : ordL kx n = kI (kxx kx n) := by
  refine List.ext_getElem (by rw [ordL_len, kI_len, kxx_len]) fun i h1 h2 => ?_
  have hi : i < n := by rw [ordL_len] at h1; exact h1
  have h := kxx_get (kx := kx) hi
  rw [List.getD_eq_getElem?_getD, List.getElem?_eq_getElem h1, Option.getD_some] at h
  rw [h]
  have h3 := kI_get (ks := kxx kx n) (i := i) (by rw [kxx_len]; exact hi)
  rw [List.getD_eq_getElem?_getD, List.getElem?_eq_getElem h2, Option.getD_some] at h3
  exact h3.symm
theorem Le.perm {f : List Nat → Int} {pre s s' : List Nat} {b b' : Int} (h : Le f pre s b b') (hp : s.Perm s') : Le f pre s' b b' :=
  ⟨fun t ht => h.1 t (ht.trans hp.symm), h.2.1.elim .inl fun ⟨t, ht, e⟩ => .inr ⟨t, ht.trans hp, e⟩, h.2.2⟩
/-- What Optimal answers. -/
def OptP (xs : List Lf) (r er : Int) : Prop := (vE xs ≠ 0 ∧ r = 0 ∧ er = vE xs) ∨ (vE xs = 0 ∧ 7 < xs.length ∧ r = 0 ∧ er = 2) ∨ (vE xs = 0 ∧ xs.length ≤ 7 ∧ er = 0 ∧ Le (ffz xs) [] (List.range xs.length) (-1) r)
theorem OptP.uniq {xs : List Lf} {r er r' er' : Int} (h : OptP xs r er) (h' : OptP xs r' er') : r = r' ∧ er = er' := by
  rcases h with ⟨a, b, c⟩ | ⟨a, b, c, d⟩ | ⟨a, b, c, d⟩ <;> rcases h' with ⟨a', b', c'⟩ | ⟨a', b', c', d'⟩ | ⟨a', b', c', d'⟩
  · exact ⟨by omega, by omega⟩
  · exact absurd a' a
  · exact absurd a' a
  · exact absurd a a'
  · exact ⟨by omega, by omega⟩
  · omega
  · exact absurd a a'
  · omega
  · exact ⟨Le.uniq (ffz_nonneg xs) (by decide) d d', by omega⟩
set_option maxRecDepth 100000 in
set_option maxHeartbeats 8000000 in
/-- Optimal of the code. -/
theorem optC (p : Option Addr) (xs : List Lf) (c n : Nat) (w : World) (HN : Hid (xs.length = n)) (hn : n ≤ 60) (RA : Hid (SlL w p xs)) (RS : Hid (∀ i, i < xs.length → (xs.getD i lf0).1.size ≤ maxLen)) :
    Calls Try.prog 17 #[.slice p n c] w fun e w' => (∃ r er, e = .returned (.tuple #[.int .i64 r, .int .i64 er]) ∧ OptP xs r er) ∧ Below w.heap.size w w' := by
  have RA0 : Hid (SlL (w.alloc (Obj.cells #[.slice p n c] 22)) p xs) := Lib.hid (RA.out.keep ((Below.refl _ _).alloc (Nat.le_refl _) _))
  have C := Lib.hid (pval p xs c (w.alloc (Obj.cells #[.slice p n c] 22)) (by rw [HN.out]; exact hn) RA0 RS)
  rw [HN.out] at C
  have l0 : (w.alloc (Obj.cells #[.slice p n c] 22)).cell? ⟨w.heap.size, 0, none⟩ = some (.slice p n c) := by go_cell
  have BL : Below w.heap.size w (w.alloc (Obj.cells #[.slice p n c] 22)) := (Below.refl _ _).alloc (Nat.le_refl _) _
  by_cases hv : vE xs = 0
  case neg =>
    have HO : Hid (OptP xs 0 (vE xs)) := Lib.hid (.inl ⟨hv, rfl, rfl⟩)
    obtain ⟨E, hE⟩ : ∃ E, vE xs = E := ⟨_, rfl⟩
    rw [hE] at C hv HO
    have e1 : (E != 0) = true := by simpa using hv
    clear hE
    go_enter Try.func17, Try.ntmps17
    go_wp2_with (go_at_call 19; (with_reducible refine C.out.mono ?_); rintro e w1 ⟨rfl, B1⟩)
    refine bodyPost_ret (v := .tuple #[.int .i64 0, .int .i64 E]) (by simp [results, Try.results17, go_sem]) rfl ?_
    exact ⟨⟨0, E, rfl, HO.out⟩, BL.trans (B1.mono (by simp))⟩
  have HV := Lib.hid hv
  rw [hv] at C
  by_cases h7 : 7 < n
  case pos =>
    have HO : Hid (OptP xs 0 2) := Lib.hid (.inr (.inl ⟨HV.out, by rw [HN.out]; exact h7, rfl, rfl⟩))
    have h7i : (7 : Int) < n := by omega
    clear hv
    go_enter Try.func17, Try.ntmps17
    go_wp2_with (go_at_call 19; (with_reducible refine C.out.mono ?_); rintro e w1 ⟨rfl, B1⟩; have l1 := kp B1 (by simp) l0)
    refine bodyPost_ret (v := .tuple #[.int .i64 0, .int .i64 2]) (by simp [results, Try.results17, go_sem]) rfl ?_
    exact ⟨⟨0, 2, rfl, HO.out⟩, BL.trans (B1.mono (by simp))⟩
  have h7i : ¬ (7 : Int) < n := by omega
  have HZ : Hid (∀ i, i < n → 1 ≤ (xs.getD i lf0).2.2.2 ∧ (xs.getD i lf0).2.2.2 ≤ 4096) := Lib.hid fun i hi => by have := valid_at HV.out (i := i) (by rw [HN.out]; exact hi); omega
  clear hv
  go_enter Try.func17, Try.ntmps17
  go_upto_region 6 with (go_at_call 19; (with_reducible refine C.out.mono ?_); rintro e w1 ⟨rfl, B1⟩; have l1 := kp B1 (by simp) l0; have HB1 := Lib.hid (BL.trans (B1.mono (by simp))); have RA1 := Lib.hid (RA0.out.keep B1); have hs1 := B1.size; simp only [World.size_alloc] at hs1; clear B1 l0 C BL)
  go_upto_region 7 with fail
  have b1 : (w1.alloc (Obj.cells #[.int .i64 (-1)] 3)).cell? ⟨w1.heap.size, 0, none⟩ = some (.int .i64 (-1)) := by go_cell
  have l2 : (w1.alloc (Obj.cells #[.int .i64 (-1)] 3)).cell? ⟨w.heap.size, 0, none⟩ = some (.slice p n c) := kp ((Below.refl _ _).alloc (Nat.le_refl _) _) (cl_lt l1) l1
  have f1 : (w1.alloc (Obj.cells #[.int .i64 (-1)] 3)).frozen? ⟨w1.heap.size, 0, none⟩ = false := by rw [frozen?_alloc_cells]; exact Rg.notFrozen (Nat.le_refl _)
  have HB2 : Hid (Below w.heap.size w (w1.alloc (Obj.cells #[.int .i64 (-1)] 3))) := Lib.hid (HB1.out.alloc (by omega) _)
  have RA2 : Hid (SlL (w1.alloc (Obj.cells #[.int .i64 (-1)] 3)) p xs) := Lib.hid (RA1.out.keep ((Below.refl _ _).alloc (Nat.le_refl _) _))
  obtain ⟨wA, hwA⟩ : ∃ wA, wA = (w1.alloc (Obj.cells #[.int .i64 (-1)] 3)) := ⟨_, rfl⟩
  have hsA : wA.heap.size = w1.heap.size + 1 := by rw [hwA]; simp
  have HSA := Lib.hid hsA
  rw [← hwA] at b1 l2 f1 HB2 RA2 ⊢
  clear hwA hsA
  have OC := Lib.hid (ord21 29 (fun _ => 0) (fun _ => True) (Lib.hid ent29) (Lib.hid fun a h w => k29 a w) p xs c n wA HN hn RA2 (Lib.hid fun i hi => trivial))
  go_upto_region 10 with (go_at_call 21; (with_reducible refine OC.out.mono ?_); rintro e w2 ⟨g, rfl, B2, O2⟩; have HO2 := Lib.hid O2; have HB3 := Lib.hid B2; have hsz2 := B2.size; clear B2 O2 OC)
  have hg1 := (HO2.out.lt g rfl)
  have hsA := HSA.out
  have q1 : ((w2.alloc (Obj.cells #[.slice (some ⟨g, 0, none⟩) n n] 43)).alloc (Obj.cells #[.func (.func 30) #[] #[.pointer (some ⟨w2.heap.size, 0, none⟩), .pointer (some ⟨w.heap.size, 0, none⟩), .pointer (some ⟨w1.heap.size, 0, none⟩), .pointer (some ⟨w2.heap.size + 1, 0, none⟩)]] 50)).cell? ⟨w2.heap.size, 0, none⟩ = some (.slice (some ⟨g, 0, none⟩) n n) := by go_cell
  have q2 : ((w2.alloc (Obj.cells #[.slice (some ⟨g, 0, none⟩) n n] 43)).alloc (Obj.cells #[.func (.func 30) #[] #[.pointer (some ⟨w2.heap.size, 0, none⟩), .pointer (some ⟨w.heap.size, 0, none⟩), .pointer (some ⟨w1.heap.size, 0, none⟩), .pointer (some ⟨w2.heap.size + 1, 0, none⟩)]] 50)).cell? ⟨w2.heap.size + 1, 0, none⟩ = some (.func (.func 30) #[] #[.pointer (some ⟨w2.heap.size, 0, none⟩), .pointer (some ⟨w.heap.size, 0, none⟩), .pointer (some ⟨w1.heap.size, 0, none⟩), .pointer (some ⟨w2.heap.size + 1, 0, none⟩)]) := by go_cell
  obtain ⟨OA, hOA⟩ : ∃ OA, (Obj.cells #[.slice (some ⟨g, 0, none⟩) n n] 43) = OA := ⟨_, rfl⟩
  obtain ⟨OB, hOB⟩ : ∃ OB, (Obj.cells #[.func (.func 30) #[] #[.pointer (some ⟨w2.heap.size, 0, none⟩), .pointer (some ⟨w.heap.size, 0, none⟩), .pointer (some ⟨w1.heap.size, 0, none⟩), .pointer (some ⟨w2.heap.size + 1, 0, none⟩)]] 50) = OB := ⟨_, rfl⟩
  rw [hOA, hOB] at q1 q2
  have BX : Below w2.heap.size w2 ((w2.alloc OA).alloc OB) := ((Below.refl _ _).alloc (Nat.le_refl _) _).alloc (by simp) _
  have BY : Below wA.heap.size wA ((w2.alloc OA).alloc OB) := HB3.out.trans (BX.mono hsz2)
  rw [hOA, hOB]
  clear hOA hOB
  obtain ⟨w3, hw3⟩ : ∃ w3, w3 = ((w2.alloc OA).alloc OB) := ⟨_, rfl⟩
  rw [← hw3] at q1 q2 BX BY ⊢
  have HTA : Hid (TA w g w2.heap.size w.heap.size w1.heap.size (w2.heap.size + 1)) := Lib.hid ⟨by omega, by omega, by omega, by omega, by omega, by omega, by omega, by omega, by omega⟩
  have HTW : Hid (TW w p g w2.heap.size w.heap.size w1.heap.size (w2.heap.size + 1) n c w3 (kxx (fun _ => 0) n) (-1)) := Lib.hid ⟨by rw [← ordL_kI]; exact own_belowE (HO2.out.mono (by omega)) BX, HB2.out.trans (BY.mono (by omega)), q1, kp BY (cl_lt l2) l2, q2, kp BY (cl_lt b1) b1, frz BY (cl_lt b1) f1⟩
  have TC := Lib.hid (tryC w xs p g w2.heap.size w.heap.size w1.heap.size (w2.heap.size + 1) n c HTA HN (by omega) RA HZ n 0 (kxx (fun _ => 0) n) (-1) w3 (by omega) (Lib.hid ⟨kxx_len _ _, fun k h => kxx_mem h⟩) (by decide) (by decide) HTW)
  rw [show ((0 : Nat) : Int) = 0 from rfl] at TC
  clear q1 b1 l2 f1 BX BY hw3
  go_wp2_with (go_at_call 30; (with_reducible refine TC.out.mono ?_); rintro e w4 ⟨rfl, b', hb', hle, H4⟩; have HLE := Lib.hid hle; have h5 := H4.cb; have HB4 := Lib.hid H4.bel; clear hle H4)
  refine bodyPost_ret (v := .tuple #[.int .i64 b', .int .i64 0]) (by simp [results, Try.results17, go_sem]) rfl ?_
  refine ⟨⟨b', 0, rfl, .inr (.inr ⟨HV.out, by rw [HN.out]; omega, rfl, ?_⟩)⟩, HB4.out⟩
  have h := HLE.out
  rw [List.take_zero, List.drop_zero] at h
  rw [HN.out]
  exact h.perm (kxx_perm _ _)
end Go.Proofs.Ytghnigmmkenddaa.Ar

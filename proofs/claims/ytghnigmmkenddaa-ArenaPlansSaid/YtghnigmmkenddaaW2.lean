/- The law of Plan without the reference. -/
import Derived.Test.YtghnigmmkenddaaW1
import Derived.Test.YtghnigmmkenddaaM6
namespace Go.Proofs.Ytghnigmmkenddaa.Ar
open Go.ChangeShapes Go.WideShapes Go.ChangeAt Go.RowKit
open Go.Proofs.Ytghnigmmkenddaa.Lv Go.Proofs.Ytghnigmmkenddaa.Nm
set_option linter.unusedVariables false
set_option linter.unusedSimpArgs false

theorem own_cap {w : World} {base n sz : Nat} {e : TypeId} {q : Option Addr} {c : Nat} {xs : List Value} (h : w.ownsRow base e sz (.slice q n c) n xs) : n ≤ c := by
  rcases h.2 with ⟨hv, h0⟩ | ⟨g, cap, cur, hv, _, _, h4, _⟩
  · omega
  · cases hv; exact h4

set_option maxRecDepth 100000 in
set_option maxHeartbeats 8000000 in
theorem law_pvalid (p : Option Addr) (xs : List Lf) (c : Nat) (w : World) (hl : xs.length ≤ c) (hm : c ≤ maxLen) (RA : Hid (SlL w p xs)) (RB : ∀ z ∈ xs, z.1.size ≤ maxLen ∧ (-9223372036854775808 ≤ z.2.1 ∧ z.2.1 ≤ 9223372036854775807) ∧ (-9223372036854775808 ≤ z.2.2.1 ∧ z.2.2.1 ≤ 9223372036854775807) ∧ (-9223372036854775808 ≤ z.2.2.2 ∧ z.2.2.2 ≤ 9223372036854775807)) :
    Calls Try.prog 4 #[.slice p xs.length c] w fun e w' => e = .returned (.bool true) ∧ Below w.heap.size w w' := by
  have RZ : Hid (∀ i, i < xs.length → (xs.getD i lf0).1.size ≤ 9223372036854775807) := Lib.hid fun i hi => by rw [getD_lf hi]; have h := (RB _ (List.getElem_mem hi)).1; unfold maxLen at h; omega
  obtain ⟨n, hn⟩ : ∃ n, xs.length = n := ⟨_, rfl⟩
  have HN := Lib.hid hn
  rw [hn]
  have FW := Lib.hid (fewC p xs c n 60 w HN (by decide) RA (by rw [← hn]; exact RZ))
  rw [show ((60 : Nat) : Int) = 60 from rfl] at FW
  have EX := Lib.hid examplesC
  clear hn
  by_cases hf : fewF xs 60 = true
  case neg =>
    have hf2 : fewF xs 60 = false := by simpa using hf
    rw [hf2] at FW
    clear hf hf2
    go_enter Try.func4, Try.ntmps4
    go_wp2_with (first | (go_at_call 8; (with_reducible refine FW.out.mono ?_); rintro e w1 ⟨rfl, B1⟩; have HB1 := Lib.hid B1; clear B1) | (go_at_call 9; (with_reducible refine (EX.out _).mono ?_); rintro e w2 ⟨rfl, B2⟩; have HB2 := Lib.hid (HB1.out.trans (B2.mono HB1.out.size)); clear B2))
    go_ret
    exact ⟨rfl, HB2.out⟩
  have HF := Lib.hid (few_at hf)
  have hn60 : n ≤ 60 := by rw [← HN.out]; exact HF.out.1
  rw [hf] at FW
  clear hf
  have PC := Lib.hid (fun w1 (B : Below w.heap.size w w1) => planC p xs c n w1 HN hn60 (Lib.hid (RA.out.keep B)) (Lib.hid HF.out.2))
  by_cases hv : vE xs = 0
  case neg =>
    have hP : plF xs = ([], 0, vE xs) := by unfold plF; rw [if_neg hv]
    rw [hP, List.length_nil] at PC
    obtain ⟨E, hE⟩ : ∃ E, vE xs = E := ⟨_, rfl⟩
    rw [hE] at PC hv
    have e1 : (E != 0) = true := by simpa using hv
    clear hE hP
    go_enter Try.func4, Try.ntmps4
    go_wp2_with (first
      | (go_at_call 8; (with_reducible refine FW.out.mono ?_); rintro e w1 ⟨rfl, B1⟩; have HB1 := Lib.hid B1; clear B1)
      | (go_at_call 10; (with_reducible refine (PC.out _ HB1.out).mono ?_); rintro e w2 ⟨v, rfl, B2, O2⟩; obtain ⟨q, c9, rfl⟩ := own_slice O2; have HB2 := Lib.hid (HB1.out.trans (B2.mono HB1.out.size)); clear B2 O2)
      | (go_at_call 9; (with_reducible refine (EX.out _).mono ?_); rintro e w3 ⟨rfl, B3⟩; have HB3 := Lib.hid (HB2.out.trans (B3.mono HB2.out.size)); clear B3))
    go_ret
    exact ⟨rfl, HB3.out⟩
  have HV := Lib.hid hv
  have PO := Lib.hid (plan_ok hv)
  have hP : (plF xs).2.2 = 0 := by unfold plF; rw [if_pos hv]
  obtain ⟨L, hL⟩ : ∃ L, (plF xs).1 = L := ⟨_, rfl⟩
  obtain ⟨s, hs⟩ : ∃ s, (plF xs).2.1 = s := ⟨_, rfl⟩
  have HB0 : Hid (BdS 245760 L ∧ 0 ≤ s ∧ s ≤ 245760) := Lib.hid (by
    have hz : ∀ i, i < xs.length → 1 ≤ (xs.getD i lf0).2.2.2 ∧ (xs.getD i lf0).2.2.2 ≤ 4096 := fun i hi => by have := valid_at HV.out hi; omega
    have FB := ffG_bd xs hz (ksz xs) [] (List.replicate xs.length st0) 0 0 (fun k hk => kxx_mem hk) (rep_bd _) (Int.le_refl _) (Int.le_refl _) (Int.le_refl _)
    have hP2 : plF xs = ((ffG xs [] (ksz xs) (List.replicate xs.length st0) 0).1, (ffG xs [] (ksz xs) (List.replicate xs.length st0) 0).2, 0) := by unfold plF; rw [if_pos HV.out]
    rw [hP2] at hL hs
    rw [← hL, ← hs]
    have hk : (ksz xs).length = xs.length := kxx_len _ _
    have hn := HN.out
    refine ⟨fun t ht => ?_, FB.1, ?_⟩
    · have := FB.2.2.2 t ht; omega
    · have := FB.2.1; show (ffG xs [] (ksz xs) (List.replicate xs.length st0) 0).2 ≤ _; omega)
  rw [hL, hs] at PO
  have PC2 : Hid (∀ w1, Below w.heap.size w w1 → Calls Try.prog 10 #[.slice p n c] w1 fun e w' => ∃ v, e = .returned (.tuple #[v, .int .i64 s, .int .i64 0]) ∧ Below w1.heap.size w1 w' ∧ w'.ownsRow w1.heap.size 39 3 v n (rowS L)) := Lib.hid fun w1 B => by
    have h := PC.out w1 B
    have hl : L.length = n := by rw [PO.out.2.2]; exact HN.out
    rw [hL, hs, hP, hl] at h
    exact h
  obtain ⟨⟨bd, s0, s1⟩⟩ : Nonempty (BdS 245760 L ∧ 0 ≤ s ∧ s ≤ 245760) := ⟨HB0.out⟩
  have HBD := Lib.hid bd
  have HLL : Hid (L.length = n) := Lib.hid (by rw [PO.out.2.2]; exact HN.out)
  have lb0 : lbF xs ≤ s := PO.out.2.1
  obtain ⟨lb, hlb⟩ : ∃ lb, lbF xs = lb := ⟨_, rfl⟩
  rw [hlb] at lb0
  have HLB := Lib.hid hlb
  have HCK : Hid (ckF xs L s = (0, 0)) := Lib.hid PO.out.1
  clear hv hP hL hs bd hlb PC HB0 PO
  go_enter Try.func4, Try.ntmps4
  go_wp2_with (first
    | (go_at_call 8; (with_reducible refine FW.out.mono ?_); rintro e w1 ⟨rfl, B1⟩; have HB1 := Lib.hid B1; clear B1)
    | (go_at_call 10; (with_reducible refine (PC2.out _ HB1.out).mono ?_); rintro e w2 ⟨v, rfl, B2, O2⟩; obtain ⟨q, c9, rfl⟩ := own_slice O2; have HB2 := Lib.hid (HB1.out.trans (B2.mono HB1.out.size)); have RA2 := Lib.hid (RA.out.keep HB2.out); have SS := Lib.hid (SlS_of O2 HLL.out); have hc9 := own_cap O2; have CR := Lib.hid (checkR p q xs L c c9 n n s w2 HN HLL hn60 hn60 hc9 RA2 (Lib.hid HF.out.2) SS (Lib.hid fun i hi => by have := HBD.out.get (by decide) i; omega) (by omega) (by omega)); rw [HCK.out] at CR; clear B2 O2 hc9)
    | (go_at_call 13; (with_reducible refine CR.out.mono ?_); rintro e w3 ⟨rfl, B3⟩; have HB3 := Lib.hid (HB2.out.trans (B3.mono HB2.out.size)); have RA3 := Lib.hid (RA2.out.keep B3); have LR := Lib.hid (lowR p xs c n w3 HN hn60 RA3 (Lib.hid HF.out.2)); rw [HLB.out] at LR; clear B3)
    | (go_at_call 14; (with_reducible refine LR.out.mono ?_); rintro e w4 ⟨rfl, B4⟩; have HB4 := Lib.hid (HB3.out.trans (B4.mono HB3.out.size)); clear B4)
    | (go_at_call 9; (with_reducible refine (EX.out _).mono ?_); rintro e w5 ⟨rfl, B5⟩; have HB5 := Lib.hid (HB4.out.trans (B5.mono HB4.out.size)); clear B5))
  go_ret
  exact ⟨rfl, HB5.out⟩
end Go.Proofs.Ytghnigmmkenddaa.Ar

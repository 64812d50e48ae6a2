/- Specs: Replicas. -/
import Derived.Test.YtndmpoomdoojpaaS5
namespace Go.Proofs.Ytndmpoomdoojpaa.Sh
open Go.ChangeShapes Go.WideShapes Go.ChangeAt Go.RowKit
set_option linter.unusedVariables false
set_option linter.unusedSimpArgs false
def rp (ms ss : List Int) : Nat → Int
  | 0 => 1
  | k + 1 => rp ms ss k * (if (k : Int) ∈ ss then 1 else ms.getD k 0)
def rV (ms ss : List Int) : Int := if mok ms = true ∧ plB ms.length ss = true then rp ms ss ms.length else 0
theorem rp_in {ms ss : List Int} {k : Nat} (h : (k : Int) ∈ ss) : rp ms ss (k + 1) = rp ms ss k := by
  show rp ms ss k * (if (k : Int) ∈ ss then 1 else ms.getD k 0) = _
  rw [if_pos h, Int.mul_one]
theorem rp_out {ms ss : List Int} {k : Nat} (h : (k : Int) ∉ ss) : rp ms ss (k + 1) = rp ms ss k * ms.getD k 0 := by
  show rp ms ss k * (if (k : Int) ∈ ss then 1 else ms.getD k 0) = _
  rw [if_neg h]
theorem rp_le {ms ss : List Int} (h : mok ms = true) : ∀ k, k ≤ ms.length → 1 ≤ rp ms ss k ∧ rp ms ss k ≤ 16 ^ k
  | 0, _ => ⟨Int.le_refl 1, by show (1 : Int) ≤ 16 ^ 0; decide⟩
  | k + 1, hk => by
    have ⟨a, b⟩ := rp_le (ss := ss) h k (by omega)
    have hm := mok_el h (show k < ms.length by omega)
    have p16 : (0 : Int) ≤ 16 ^ k := Int.pow_nonneg (by decide)
    rw [Int.pow_succ]
    by_cases hi : (k : Int) ∈ ss
    · rw [rp_in hi]; omega
    · rw [rp_out hi]
      constructor
      · have := Int.mul_le_mul_of_nonneg_right a (by omega : 0 ≤ ms.getD k 0); omega
      · exact Int.le_trans (Int.mul_le_mul_of_nonneg_left hm.2 (by omega)) (Int.mul_le_mul_of_nonneg_right b (by decide))
theorem rp_bd {ms ss : List Int} (h : mok ms = true) (k : Nat) (hk : k ≤ ms.length) : 1 ≤ rp ms ss k ∧ rp ms ss k ≤ 4096 := by
  have ⟨a, b⟩ := rp_le (ss := ss) h k hk
  have h3 := (mok_facts h).2.1
  have : k = 0 ∨ k = 1 ∨ k = 2 ∨ k = 3 := by omega
  rcases this with rfl | rfl | rfl | rfl <;> omega
set_option maxRecDepth 100000 in
set_option maxHeartbeats 16000000 in
theorem repl1 (p q : Option Addr) (ms ss : List Int) (c d : Nat) (w : World) (hm : ms.length ≤ maxLen) (hn : ss.length ≤ maxLen) (hd : ss.length ≤ d) (RM : Hid (SlI w p ms)) (RS : Hid (SlI w q ss)) :
    Calls Try.prog 38 #[.agg #[.slice p ms.length c], .slice q ss.length d] w (Ret (.int .i64 (rV ms ss)) w) := by
  have BA := (Below.refl w.heap.size w).alloc (Nat.le_refl _) (Obj.cells #[Value.slice p ms.length c] 48)
  have hbx : (w.alloc (Obj.cells #[Value.slice p ms.length c] 48)).cell? ⟨w.heap.size, 0, none⟩ = some (.slice p ms.length c) := by go_cell
  have hlt0 : w.heap.size < (w.alloc (Obj.cells #[Value.slice p ms.length c] 48)).heap.size := by simp
  have CM := Lib.hid fun u (hu : Below w.heap.size w u) => c37 p ms c u hm (Lib.hid (SlI.keep hu RM.out))
  have CP := Lib.hid fun u (hu : Below w.heap.size w u) => plain1 p q ms ss c d u hm hn hd (Lib.hid (SlI.keep hu RS.out))
  have CC := Lib.hid fun u (x : Int) (hu : Below w.heap.size w u) => contains1 q ss d x u hn (Lib.hid (SlI.keep hu RS.out))
  have HBA := Lib.hid BA
  have HLT := Lib.hid hlt0
  unfold maxLen at hm hn
  clear BA hlt0
  go_enter Try.func38, Try.ntmps38
  go_wp2_with fail
  generalize w.alloc (Obj.cells #[Value.slice p ms.length c] 48) = wb at *
  refine (CM.out wb HBA.out).mono ?_
  rintro e w1 ⟨rfl, hb1⟩
  have K1 := Lib.hid (HBA.out.trans (hb1.mono HBA.out.size))
  have hbx1 : w1.cell? ⟨w.heap.size, 0, none⟩ = some (.slice p ms.length c) := (hb1.cell (p := ⟨w.heap.size, 0, none⟩) HLT.out).trans hbx
  have HLT1 := Lib.hid (Nat.lt_of_lt_of_le HLT.out hb1.size)
  clear hb1 hbx CM HBA HLT
  by_cases h1 : mok ms = true
  · rw [mV_ok h1]
    have H1 := Lib.hid h1
    clear h1
    go_wp2_with fail
    refine (CP.out w1 K1.out).mono ?_
    rintro e w3 ⟨rfl, hb3⟩
    have K3 := Lib.hid (K1.out.trans (hb3.mono K1.out.size))
    have hbx3 : w3.cell? ⟨w.heap.size, 0, none⟩ = some (.slice p ms.length c) := (hb3.cell (p := ⟨w.heap.size, 0, none⟩) HLT1.out).trans hbx1
    clear hb3 hbx1 HLT1 K1 CP
    by_cases hpl : plB ms.length ss = true
    · have HF : Hid (rV ms ss = rp ms ss ms.length) := Lib.hid (if_pos ⟨H1.out, hpl⟩)
      rw [hpl]
      clear hpl
      go_wp2_with fail
      go_loop [5, 20] (fun r i => ∃ (k : Nat) (R : Int), r = .int .i64 R ∧ i = .int .i64 k ∧ k ≤ ms.length ∧ Hid (R = rp ms ss k)) (fun _ i => ms.length - (intOf i).toNat)
      case atStart => exact ⟨0, 1, rfl, rfl, by omega, Lib.hid rfl⟩
      case round =>
        obtain ⟨k, R, rfl, rfl, hk, hR⟩ := hrel
        have k0 : (0 : Int) ≤ k := by omega
        obtain ⟨r1, r2⟩ := rp_bd (ss := ss) H1.out k hk
        rw [← hR.out] at r1 r2
        by_cases hlt : k < ms.length
        · obtain ⟨b3, o3, rfl, hc3⟩ := SlI.keep K3.out RM.out k hlt
          obtain ⟨z1, z2⟩ := mok_el H1.out hlt
          obtain ⟨z, hz⟩ : ∃ z, ms.getD k 0 = z := ⟨_, rfl⟩
          have HZ := Lib.hid hz
          rw [hz] at hc3 z1 z2
          have k1 : (k : Int) < ms.length := by omega
          clear hz
          by_cases hin : (k : Int) ∈ ss
          · have HL2 : Hid (R = rp ms ss (k + 1)) := Lib.hid (by rw [rp_in hin]; exact hR.out)
            have CK := Lib.hid (CC.out w3 k K3.out)
            rw [decide_eq_true hin] at CK
            clear hin
            go_wp2_with fail
            refine CK.out.mono ?_
            rintro e w' ⟨rfl, rfl⟩
            go_wp2
            go_round
            case rel => exact ⟨k + 1, R, rfl, by go_num, by omega, HL2⟩
            case measure => simp [intOf]; omega
          · obtain ⟨T, hT⟩ : ∃ T, R * z = T := ⟨_, rfl⟩
            have HL2 : Hid (T = rp ms ss (k + 1)) := Lib.hid (by rw [rp_out hin, ← hT, HZ.out, hR.out])
            have t1 := rp_bd (ss := ss) H1.out (k + 1) (by omega)
            rw [← HL2.out] at t1
            obtain ⟨t1, t2⟩ := t1
            have CK := Lib.hid (CC.out w3 k K3.out)
            rw [decide_eq_false hin] at CK
            clear hin
            go_wp2_with fail
            refine CK.out.mono ?_
            rintro e w' ⟨rfl, rfl⟩
            go_wp2
            go_round
            case rel => exact ⟨k + 1, T, by first | rfl | rw [hT], by go_num, by omega, HL2⟩
            case measure => simp [intOf]; omega
        · have HE : Hid (R = rV ms ss) := Lib.hid (by rw [HF.out, hR.out]; congr 1; omega)
          have k1 : ¬ (k : Int) < ms.length := by omega
          go_wp2
          go_ret
          exact ⟨ret_int HE.out, K3.out⟩
    · have HF : Hid (rV ms ss = 0) := Lib.hid (if_neg fun h => hpl h.2)
      rw [Bool.not_eq_true] at hpl
      rw [hpl]
      clear hpl
      go_wp2
      go_ret
      exact ⟨ret_int HF.out.symm, K3.out⟩
  · have HF : Hid (rV ms ss = 0) := Lib.hid (if_neg fun h => h1 h.1)
    rw [mV_no h1]
    clear h1
    go_wp2
    go_ret
    exact ⟨ret_int HF.out.symm, K1.out⟩
end Go.Proofs.Ytndmpoomdoojpaa.Sh

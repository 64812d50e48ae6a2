/- The reference: the magnitude of a number as a text. -/
import Derived.Test.YtbicmlkjonaccaaDoorZ0
import Derived.Test.YtbicmlkjonaccaaDoorReg
import Derived.Lib.SmallJoins
import Derived.Lib.AppendIntMem
import Derived.IntWalk
namespace Go.Proofs.YtbicmlkjonaccaaDoor.Ln
open Go.ChangeShapes Go.WideShapes Go.ChangeAt Go.RowKit

set_option linter.unusedVariables false
set_option linter.unusedSimpArgs false
set_option maxRecDepth 8000

theorem rsize (n : Int) (n0 : -9223372036854775808 ≤ n) (n1 : n ≤ 9223372036854775807) (w : World) : Calls Tryd.prog 50 #[.int .i64 n] w fun e w' => e = .returned (.int .u64 n.natAbs) ∧ w = w' := by
  by_cases hn : n < 0
  · obtain ⟨u, rfl⟩ : ∃ u : Nat, n = -(u : Int) := ⟨n.natAbs, by omega⟩
    have e : (-(u : Int)).natAbs = u := by omega
    rw [e]
    have g : decide (-(u : Int) < 0) = true := by simp; omega
    have w1 : IntKind.i64.wrap (-(u : Int) + 1) = -(u : Int) + 1 := by rw [IntKind.wrap_i64]; omega
    have w2 : IntKind.i64.wrap (-(-(u : Int) + 1)) = (u : Int) - 1 := by rw [IntKind.wrap_i64]; omega
    have w3 : IntKind.u64.wrap ((u : Int) - 1) = (u : Int) - 1 := by rw [IntKind.wrap_u64]; omega
    have w4 : IntKind.u64.wrap ((u : Int) - 1 + 1) = (u : Int) := by rw [IntKind.wrap_u64]; omega
    clear e
    go_enter Tryd.func50, Tryd.ntmps50
    go_wp2
    go_ret
    refine ⟨?_, rfl⟩
    first | rfl | (congr 2; rw [IntKind.wrap_u64]; omega) | (congr 2; omega)
  · obtain ⟨u, rfl⟩ : ∃ u : Nat, n = (u : Int) := ⟨n.natAbs, by omega⟩
    have e : (u : Int).natAbs = u := by omega
    rw [e]
    have g : decide ((u : Int) < 0) = false := by simp
    have w3 : IntKind.u64.wrap (u : Int) = (u : Int) := by rw [IntKind.wrap_u64]; omega
    clear e hn
    go_enter Tryd.func50, Tryd.ntmps50
    go_wp2
    go_ret
    exact ⟨rfl, rfl⟩
theorem cvt1 (W : World) (b r : Nat) (h : r < 10) (hc : W.cell? ⟨b, 0, none⟩ = some (.int .u8 (48 + (r : Int)))) : (convert 66 9 (.slice (some ⟨b, 0, none⟩) 1 1)).run Tryd.prog W = .ok (.string ⟨#[UInt8.ofNat (48 + r)]⟩) W := by
  have h2 := run_convert_bytes_back (P := Tryd.prog) W 66 9 5 ⟨b, 0, none⟩ 1 [UInt8.ofNat (48 + r)] Tryd.underlying66 Tryd.underlying5 Tryd.underlying9 (fun j hj => by
    obtain rfl : j = 0 := by simpa using hj
    rw [Lib.add_plain]
    have e : ((UInt8.ofNat (48 + r)).toNat : Int) = 48 + (r : Int) := by
      rw [UInt8.toNat_ofNat_of_lt' (by show 48 + r < 256; omega)]; omega
    simp only [List.getElem_cons_zero]
    rw [e]
    exact hc)
  exact h2
theorem mk_app (a : UInt8) (t : ByteArray) : (⟨#[a]⟩ : ByteArray) ++ t = ⟨(a :: t.data.toList).toArray⟩ := by
  apply ByteArray.ext
  simp
set_option maxRecDepth 100000 in
set_option maxHeartbeats 4000000 in
theorem rdigits (n : Nat) (hn : n < 18446744073709551616) (w : World) : Calls Tryd.prog 51 #[.int .u64 n] w fun e w' => e = .returned (.string ⟨(Lib.decDigits n).toArray⟩) ∧ Below w.heap.size w w' := by
  have hlen := dec20 n hn
  obtain ⟨D, hD⟩ : ∃ D, Lib.decDigits n = D := ⟨_, rfl⟩
  rw [hD] at hlen ⊢
  have HD := Lib.hid hD
  clear hD
  go_enter Tryd.func51, Tryd.ntmps51
  go_wp2
  go_loopw [0, 3] (fun a b wr => ∃ (q : Nat) (t : ByteArray), a = .int .u64 q ∧ b = .string t ∧ q < 18446744073709551616 ∧ t.size ≤ 20 ∧ Hid (Lib.decDigits q ++ t.data.toList = D) ∧ Hid (Below w.heap.size w wr)) (fun a _ _ => (intOf a).toNat)
  case atStart => exact ⟨n, ⟨#[]⟩, rfl, rfl, hn, by decide, Lib.hid (by rw [HD.out]; simp), Lib.hid (Below.refl _ _)⟩
  case round =>
    obtain ⟨q, t, rfl, rfl, hq, ht, HT, HB⟩ := hrel
    have q0 : (0 : Int) ≤ q := by omega
    obtain ⟨r, hr⟩ : ∃ r : Nat, q % 10 = r := ⟨_, rfl⟩
    obtain ⟨k, hk⟩ : ∃ k : Nat, q / 10 = k := ⟨_, rfl⟩
    have hr10 : r < 10 := by omega
    have j3 : (q : Int) % 10 = r := by omega
    have j4 : (q : Int) / 10 = k := by omega
    have j3' : (q : Int).tmod 10 = r := by rw [Int.tmod_eq_emod_of_nonneg q0]; omega
    have j4' : (q : Int).tdiv 10 = k := by rw [Int.tdiv_eq_ediv_of_nonneg q0]; omega
    have r0 : (0 : Int) ≤ r := by omega
    have w1 : IntKind.u64.wrap (48 + (r : Int)) = 48 + r := by rw [IntKind.wrap_u64]; omega
    have w2 : IntKind.u8.wrap (48 + (r : Int)) = 48 + r := by rw [IntKind.wrap_u8]; omega
    have w3 : IntKind.u64.wrap (r : Int) = r := by rw [IntKind.wrap_u64]; omega
    have w4 : IntKind.u64.wrap (k : Int) = k := by rw [IntKind.wrap_u64]; omega
    have hcv : ∀ (W : World) (b : Nat), W.cell? ⟨b, 0, none⟩ = some (.int .u8 (48 + (r : Int))) → (convert 66 9 (.slice (some ⟨b, 0, none⟩) 1 1)).run Tryd.prog W = .ok (.string ⟨#[UInt8.ofNat (48 + r)]⟩) W := fun W b h => cvt1 W b r hr10 h
    have hB1 : Hid (Below w.heap.size w (wr.alloc (Obj.cells #[.int .u8 (48 + (r : Int))] 5))) := Lib.hid (HB.out.alloc HB.out.size _)
    by_cases h : q < 10
    · have k0 : k = 0 := by omega
      have rq : r = q := by omega
      have g : ((k : Int) == 0) = true := by simp; omega
      have hE : (⟨#[UInt8.ofNat (48 + r)]⟩ : ByteArray) ++ t = ⟨D.toArray⟩ := by
        rw [mk_app, ← HT.out, rq, show Lib.decDigits q = [UInt8.ofNat (48 + q)] by rw [Lib.decDigits, dif_pos h]]; rfl
      obtain ⟨c, hc⟩ : ∃ c, (⟨#[UInt8.ofNat (48 + r)]⟩ : ByteArray) = c := ⟨_, rfl⟩
      have hc1 : c.size = 1 := by rw [← hc]; rfl
      rw [hc] at hE hcv
      have HE := Lib.hid hE
      clear hE hc h HT hr hk k0 rq hn hq HB
      go_wp2
      go_ret
      exact ⟨by rw [HE.out]; rfl, hB1.out⟩
    · have g : ((k : Int) == 0) = false := by simp; omega
      have hN : Hid (Lib.decDigits k ++ ((⟨#[UInt8.ofNat (48 + r)]⟩ : ByteArray) ++ t).data.toList = D) := Lib.hid (by
        rw [← HT.out, show Lib.decDigits q = Lib.decDigits (q / 10) ++ [UInt8.ofNat (48 + q % 10)] by rw [Lib.decDigits, dif_neg h], hr, hk]
        simp)
      have hl : ((⟨#[UInt8.ofNat (48 + r)]⟩ : ByteArray) ++ t).size ≤ 20 := by
        rw [Lib.size_eq]
        have h1 := congrArg List.length hN.out
        rw [List.length_append] at h1
        omega
      obtain ⟨c, hc⟩ : ∃ c, (⟨#[UInt8.ofNat (48 + r)]⟩ : ByteArray) = c := ⟨_, rfl⟩
      have hc1 : c.size = 1 := by rw [← hc]; rfl
      rw [hc] at hN hl hcv
      have hkq : k < q := by omega
      have hk2 : k < 18446744073709551616 := by omega
      clear hc h HT hr hk HB
      go_wp2
      go_roundw
      case rel => exact ⟨k, c ++ t, rfl, rfl, hk2, hl, hN, hB1⟩
      case measure => simp [intOf]; omega
end Go.Proofs.YtbicmlkjonaccaaDoor.Ln

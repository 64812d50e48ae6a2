/- Boxes: Rank. -/
import Derived.Test.YtkdfidjoighknaaB7
namespace Go.Proofs.Ytkdfidjoighknaa.Bx
open Go.ChangeShapes Go.WideShapes Go.ChangeAt Go.RowKit
set_option linter.unusedVariables false
set_option linter.unusedSimpArgs false
def rk (zs ps : List Int) : Nat → Int
  | 0 => 0
  | k + 1 => rk zs ps k * zs.getD k 0 + ps.getD k 0
theorem rk_bd {zs ps : List Int} (hl : zs.any low = false) (h : ∀ j, j < zs.length → 0 ≤ ps.getD j 0 ∧ ps.getD j 0 < zs.getD j 0) : ∀ k, k ≤ zs.length → 0 ≤ rk zs ps k ∧ (rk zs ps k + 1) * sp (zs.drop k) ≤ sp zs
  | 0, _ => ⟨Int.le_refl 0, by show (0 + 1) * sp zs ≤ sp zs; omega⟩
  | k + 1, hk => by
    obtain ⟨a, b⟩ := rk_bd hl h k (by omega)
    obtain ⟨y0, y1⟩ := h k (by omega)
    have hd := drop_cons (zs := zs) (k := k) (by omega)
    have s1 := sp_pos (any_drop hl (k + 1))
    rw [hd] at b
    change (rk zs ps k + 1) * (sp (zs.drop (k + 1)) * zs.getD k 0) ≤ sp zs at b
    show 0 ≤ rk zs ps k * zs.getD k 0 + ps.getD k 0 ∧ (rk zs ps k * zs.getD k 0 + ps.getD k 0 + 1) * sp (zs.drop (k + 1)) ≤ sp zs
    have m0 := Int.mul_nonneg a (by omega : 0 ≤ zs.getD k 0)
    refine ⟨by omega, Int.le_trans (Int.mul_le_mul_of_nonneg_right (show rk zs ps k * zs.getD k 0 + ps.getD k 0 + 1 ≤ (rk zs ps k + 1) * zs.getD k 0 by rw [Int.add_mul, Int.one_mul]; omega) (by omega)) ?_⟩
    rw [Int.mul_assoc, Int.mul_comm (zs.getD k 0)]
    exact b
theorem rk_lt {zs ps : List Int} (h : inB zs ps = true) (k : Nat) (hk : k ≤ zs.length) : 0 ≤ rk zs ps k ∧ rk zs ps k < 65536 := by
  obtain ⟨_, _, h3⟩ := inB_yes h
  obtain ⟨_, hl, _, _, p1⟩ := inB_full h
  obtain ⟨a, b⟩ := rk_bd hl h3 k hk
  have s1 := sp_pos (any_drop hl k)
  have := Int.mul_le_mul_of_nonneg_left s1 (by omega : 0 ≤ rk zs ps k + 1)
  omega
def rN (zs ps : List Int) : Int := if inB zs ps = true then rk zs ps zs.length else 0
/-- Rank's two results. -/
def RW (v : Int) (t : Bool) (w : World) (e : Ending) (w' : World) : Prop := e = .returned (.tuple #[.int .i64 v, .bool t]) ∧ ∃ m, w' = w.drewN m
set_option maxHeartbeats 8000000 in
theorem rank1 (p q : Option Addr) (zs ps : List Int) (c d : Nat) (w : World) (hn : zs.length ≤ maxLen) (hp : ps.length ≤ maxLen) (RA : Hid (SlI w p zs)) (RB : Hid (SlI w q ps)) :
    Calls Try.prog 22 #[.slice p zs.length c, .slice q ps.length d] w (RW (rN zs ps) (inB zs ps) w) := by
  have C := Lib.hid (cont1 p q zs ps c d w hn hp RA RB)
  by_cases hb : inB zs ps = true
  · rw [show rN zs ps = rk zs ps zs.length from if_pos hb, hb]
    rw [hb] at C
    have hl := (inB_yes hb).2.1
    have HI := Lib.hid (inB_yes hb)
    have HK := Lib.hid fun k hk => rk_lt hb k hk
    rw [hl] at C ⊢
    obtain ⟨n, hn2⟩ : ∃ n, zs.length = n := ⟨_, rfl⟩
    have HN := Lib.hid hn2
    have HP : Hid (ps.length = n) := Lib.hid (hl.trans hn2)
    rw [hn2] at C hn HK ⊢
    unfold maxLen at hn hp
    clear hb hl hn2 hp
    go_enter Try.func22, Try.ntmps22
    go_wp2_with fail
    refine C.out.mono ?_
    rintro e w' ⟨rfl, md, rfl⟩
    clear C
    go_wp2
    go_loopw [6, 15] (fun s i wr => ∃ (k m : Nat) (R : Int), s = .int .i64 R ∧ i = .int .i64 k ∧ k ≤ n ∧ wr = w.drewN m ∧ Hid (R = rk zs ps k)) (fun _ i _ => n - (intOf i).toNat)
    case atStart => exact ⟨0, md, 0, rfl, rfl, by omega, rfl, Lib.hid rfl⟩
    case round =>
      obtain ⟨k, m, R, rfl, rfl, hk, rfl, hR⟩ := hrel
      have k0 : (0 : Int) ≤ k := by omega
      obtain ⟨r0, r1⟩ := HK.out k hk
      rw [← hR.out] at r0 r1
      by_cases hlt : k < n
      · obtain ⟨b, o, rfl, hc⟩ := RA.out k (by rw [HN.out]; exact hlt)
        obtain ⟨b2, o2, rfl, hc2⟩ := RB.out k (by rw [HP.out]; exact hlt)
        have hy9 := HI.out.2.2 k (by rw [HN.out]; exact hlt)
        have hs : rk zs ps (k + 1) = R * zs.getD k 0 + ps.getD k 0 := by rw [hR.out]; rfl
        have h2 := HK.out (k + 1) (by omega)
        obtain ⟨z, hz⟩ : ∃ z, zs.getD k 0 = z := ⟨_, rfl⟩
        obtain ⟨y, hy⟩ : ∃ y, ps.getD k 0 = y := ⟨_, rfl⟩
        rw [hz] at hc hs hy9
        rw [hy] at hc2 hs hy9
        rw [hs] at h2
        obtain ⟨y0, y1⟩ := hy9
        obtain ⟨T, hT⟩ : ∃ T, R * z = T := ⟨_, rfl⟩
        rw [hT] at hs h2
        obtain ⟨t0, t1⟩ := h2
        have t2 : 0 ≤ T := by rw [← hT]; exact Int.mul_nonneg r0 (by omega)
        have t3 : T ≤ 65536 := by omega
        have HS := Lib.hid hs.symm
        have k1 : (k : Int) < n := by omega
        clear hz hy hs
        go_wp2
        go_roundw
        case rel => exact ⟨k + 1, _, T + y, by first | rfl | rw [hT], by go_num, by omega, by first | rfl | rw [World.drewN_drewN], HS⟩
        case measure => simp [intOf]; omega
      · have k1 : ¬ (k : Int) < n := by omega
        have HE : Hid (R = rk zs ps n) := Lib.hid (by rw [hR.out]; congr 1; omega)
        go_wp2
        refine bodyPost_ret (v := .tuple #[.int .i64 R, .bool true]) (by simp [results, Try.results22, go_sem]) rfl ⟨by rw [HE.out], m, rfl⟩
  · rw [show rN zs ps = 0 from if_neg hb, show inB zs ps = false by simpa using hb]
    rw [show inB zs ps = false by simpa using hb] at C
    unfold maxLen at hn hp
    clear hb
    go_enter Try.func22, Try.ntmps22
    go_wp2_with fail
    refine C.out.mono ?_
    rintro e w' ⟨rfl, md, rfl⟩
    go_wp2
    refine bodyPost_ret (v := .tuple #[.int .i64 0, .bool false]) (by simp [results, Try.results22, go_sem]) rfl ⟨rfl, md, rfl⟩
end Go.Proofs.Ytkdfidjoighknaa.Bx

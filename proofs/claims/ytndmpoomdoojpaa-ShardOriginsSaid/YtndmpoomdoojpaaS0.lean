/- Contracts carried from another seat. -/
import Derived.Test.YtndmpoomdoojpaaRows
import Derived.WalkKit
import Derived.ProofKit
import Derived.OpenShut
import Derived.WalkLawsBesides
import Derived.WalkSpells
import Derived.Outline
import Derived.Handy
import Derived.IntWalk
import Derived.Deep.QuietTactic
import Derived.BigQuiet
import Derived.Lib.Hide
import Derived.OwnWalk
import Derived.Laws.OwnMore
import Derived.Deep.RegionHeld
import Derived.Laws.AppendOwn
import Derived.Deep.Onto
namespace Go.Proofs.Ytndmpoomdoojpaa.Sh
open Go.ChangeShapes Go.WideShapes Go.ChangeAt Go.RowKit
set_option linter.unusedVariables false
set_option linter.unusedSimpArgs false
/-- A slice value reads as a list of integers. -/
def SlI (w : World) (p : Option Addr) (zs : List Int) : Prop := ∀ i, i < zs.length → ∃ b o, p = some ⟨b, o, none⟩ ∧ w.cell? ⟨b, o + i, none⟩ = some (.int .i64 (zs.getD i 0))
theorem ret_int {k : IntKind} {a b : Int} (h : a = b) : Ending.returned (.int k a) = .returned (.int k b) := by rw [h]
theorem ret_bool {a b : Bool} (h : a = b) : Ending.returned (.bool a) = .returned (.bool b) := by rw [h]
theorem getD_at {zs : List Int} {k : Nat} (h : k < zs.length) : zs.getD k 0 = zs[k] := by
  unfold List.getD
  rw [List.getElem?_eq_getElem h]
  rfl
theorem any_take {zs : List Int} {f : Int → Bool} {k : Nat} (h : ∀ j, j < k → f (zs.getD j 0) = false) (hk : k = zs.length) : zs.any f = false := by
  rw [List.any_eq_false]
  intro x hx
  obtain ⟨j, hj, rfl⟩ := List.getElem_of_mem hx
  have := h j (by omega)
  rw [getD_at hj] at this
  simpa using this
theorem any_at {zs : List Int} {f : Int → Bool} {k : Nat} (h : f (zs.getD k 0) = true) (hk : k < zs.length) : zs.any f = true := by
  rw [List.any_eq_true]
  exact ⟨zs[k], List.getElem_mem hk, by rw [getD_at hk] at h; exact h⟩
def low (z : Int) : Bool := decide (z < 1)
theorem c47 (n : Int) (w : World) : Calls Try.prog 75 #[.int .i64 n] w fun e w' => e = .returned (.bool (low n)) ∧ w = w' := by
  go_enter Try.func75, Try.ntmps75
  go_wp2
  go_ret
  exact ⟨rfl, rfl⟩
def IX (zs : List Int) (w : World) (e : Ending) (w' : World) : Prop := ∃ r : Int, e = .returned (.int .i64 r) ∧ decide (0 ≤ r) = zs.any low ∧ w = w'
set_option maxHeartbeats 2000000 in
theorem c53 (p : Option Addr) (zs : List Int) (c : Nat) (w : World) (hn : zs.length ≤ maxLen) (RA : Hid (SlI w p zs)) :
    Calls Try.prog 79 #[.slice p zs.length c, .func (.func 75) #[] #[]] w (IX zs w) := by
  unfold maxLen at hn
  go_enter Try.func79, Try.ntmps79
  go_wp2
  go_loop [8] (fun i => ∃ k : Nat, i = .int .i64 k ∧ k ≤ zs.length ∧ Hid (∀ j, j < k → low (zs.getD j 0) = false)) (fun i => zs.length - (intOf i).toNat)
  case atStart => exact ⟨0, rfl, by omega, Lib.hid fun j hj => by omega⟩
  case round =>
    obtain ⟨k, rfl, hk, hL⟩ := hrel
    by_cases hlt : k < zs.length
    · obtain ⟨b, o, rfl, hc⟩ := RA.out k hlt
      obtain ⟨z, hz⟩ : ∃ z, zs.getD k 0 = z := ⟨_, rfl⟩
      rw [hz] at hc
      obtain ⟨x, hx⟩ : ∃ x, low z = x := ⟨_, rfl⟩
      have HX := Lib.hid hx
      have HZ := Lib.hid hz
      have C := Lib.hid fun w => c47 z w
      rw [hx] at C
      clear hx hz
      cases x
      · go_wp2_with (go_at_call 75; refine (C.out _).mono ?_; rintro e w' ⟨rfl, rfl⟩)
        go_round
        case rel => exact ⟨k + 1, by go_num, by omega, Lib.hid fun j hj => by
          rcases (by omega : j < k ∨ j = k) with h | rfl
          · exact hL.out j h
          · rw [HZ.out]; exact HX.out⟩
        case measure => simp [intOf]; omega
      · go_wp2_with (go_at_call 75; refine (C.out _).mono ?_; rintro e w' ⟨rfl, rfl⟩)
        go_ret
        exact ⟨_, rfl, by rw [any_at (k := k) (by rw [HZ.out]; exact HX.out) hlt]; simp, rfl⟩
    · go_wp2
      go_ret
      exact ⟨_, rfl, by rw [any_take (k := k) hL.out (by omega)]; rfl, rfl⟩
theorem c46 (p : Option Addr) (zs : List Int) (c : Nat) (w : World) (hn : zs.length ≤ maxLen) (RA : Hid (SlI w p zs)) :
    Calls Try.prog 74 #[.slice p zs.length c, .func (.func 75) #[] #[]] w fun e w' => e = .returned (.bool (zs.any low)) ∧ w = w' := by
  have C := Lib.hid (c53 p zs c w hn RA)
  go_enter Try.func74, Try.ntmps74
  go_wp2_with (go_at_call 79; refine (C.out).mono ?_; rintro e w' ⟨r, rfl, hr, rfl⟩; have HR := Lib.hid hr; clear hr)
  go_ret
  exact ⟨ret_bool HR.out, rfl⟩
/-- The product as long as it stays within the limit. -/
def pr : Int → List Int → Option Int
  | s, [] => some s
  | s, z :: zs => if 4096 < s * z then none else pr (s * z) zs
/-- What Validate answers. -/
def vE (zs : List Int) : Int := if 6 < zs.length then 2 else if zs.any low = true then 1 else if pr 1 zs = none then 2 else 0
theorem drop_cons {zs : List Int} {k : Nat} (h : k < zs.length) : zs.drop k = zs.getD k 0 :: zs.drop (k + 1) := by
  rw [List.drop_eq_getElem_cons h, getD_at h]
theorem pos_of {zs : List Int} (h : zs.any low = false) {k : Nat} (hk : k < zs.length) : 1 ≤ zs.getD k 0 := by
  rw [List.any_eq_false] at h
  have := h zs[k] (List.getElem_mem hk)
  rw [getD_at hk]
  unfold low at this
  simp at this
  omega
theorem quo_lt (s z : Int) (hs : 1 ≤ s) (hs' : s ≤ 4096) : 4096 / s < z ↔ 4096 < s * z := by
  constructor
  · intro h
    have h1 := Int.lt_mul_of_ediv_lt (by omega : 0 < s) h
    rw [Int.mul_comm] at h1
    exact h1
  · intro h
    rw [Int.mul_comm] at h
    exact Int.ediv_lt_of_lt_mul (by omega : 0 < s) h
theorem vE_long {zs : List Int} (h : 6 < zs.length) : vE zs = 2 := by unfold vE; rw [if_pos h]
theorem vE_low {zs : List Int} (h : ¬ 6 < zs.length) (h1 : zs.any low = true) : vE zs = 1 := by unfold vE; rw [if_neg h, if_pos h1]
theorem vE_none {zs : List Int} (h : ¬ 6 < zs.length) (h1 : zs.any low = false) (h2 : pr 1 zs = none) : vE zs = 2 := by unfold vE; rw [if_neg h, h1, if_neg (by decide), if_pos h2]
theorem vE_some {zs : List Int} {s : Int} (h : ¬ 6 < zs.length) (h1 : zs.any low = false) (h2 : pr 1 zs = some s) : vE zs = 0 := by unfold vE; rw [if_neg h, h1, if_neg (by decide), h2, if_neg (by simp)]
theorem pr_none {s z : Int} {zs : List Int} (h : 4096 < s * z) : pr s (z :: zs) = none := by unfold pr; rw [if_pos h]
theorem pr_go {s z : Int} {zs : List Int} (h : ¬ 4096 < s * z) : pr s (z :: zs) = pr (s * z) zs := by
  show (if 4096 < s * z then none else pr (s * z) zs) = _
  rw [if_neg h]
set_option maxHeartbeats 4000000 in
theorem c14 (p : Option Addr) (zs : List Int) (c : Nat) (w : World) (hn : zs.length ≤ maxLen) (RA : Hid (SlI w p zs)) :
    Calls Try.prog 58 #[.slice p zs.length c] w fun e w' => e = .returned (.int .i64 (vE zs)) ∧ w = w' := by
  have C := Lib.hid (c46 p zs c w hn RA)
  unfold maxLen at hn
  by_cases h6 : 6 < zs.length
  · rw [vE_long h6]
    have l1 : decide ((6 : Int) < zs.length) = true := by simp <;> omega
    go_enter Try.func58, Try.ntmps58
    go_wp2
    go_ret
    exact ⟨rfl, rfl⟩
  · have l1 : decide ((6 : Int) < zs.length) = false := by simp <;> omega
    have l2 : decide (6 < zs.length) = false := by simp <;> omega
    obtain ⟨x, hx⟩ : ∃ x, zs.any low = x := ⟨_, rfl⟩
    rw [hx] at C
    have HX := Lib.hid hx
    have H6 := Lib.hid h6
    clear h6 hx
    cases x
    · obtain ⟨V, hV⟩ : ∃ V, vE zs = V := ⟨_, rfl⟩
      rw [hV]
      have HV := Lib.hid hV
      clear hV
      go_enter Try.func58, Try.ntmps58
      go_wp2_with (go_at_call 74; refine (C.out).mono ?_; rintro e w' ⟨rfl, rfl⟩)
      go_loop [3, 13] (fun s i => ∃ (k : Nat) (S : Int), s = .int .i64 S ∧ i = .int .i64 k ∧ k ≤ zs.length ∧ 1 ≤ S ∧ S ≤ 4096 ∧ Hid (pr 1 zs = pr S (zs.drop k))) (fun _ i => zs.length - (intOf i).toNat)
      case atStart => exact ⟨0, 1, rfl, rfl, by omega, by omega, by omega, Lib.hid rfl⟩
      case round =>
        obtain ⟨k, S, rfl, rfl, hk, s0, s1, hP⟩ := hrel
        have sz : (S == 0) = false := by simp <;> omega
        by_cases hlt : k < zs.length
        · obtain ⟨b, o, rfl, hc⟩ := RA.out k hlt
          have z1 := pos_of HX.out hlt
          have hd := drop_cons hlt
          have hq := quo_lt S (zs.getD k 0) s0 s1
          obtain ⟨z, hz⟩ : ∃ z, zs.getD k 0 = z := ⟨_, rfl⟩
          rw [hz] at hc z1 hd hq
          obtain ⟨T, hT⟩ : ∃ T, S * z = T := ⟨_, rfl⟩
          rw [hT] at hq
          obtain ⟨q, hQ⟩ : ∃ q, 4096 / S = q := ⟨_, rfl⟩
          rw [hQ] at hq
          have t0 : 0 < T := by rw [← hT]; exact Int.mul_pos (by omega) (by omega)
          have HT := Lib.hid hT
          have HD := Lib.hid hd
          clear hz hd
          by_cases hb : 4096 < T
          · have k1 : decide (q < z) = true := by simp <;> omega
            have e : V = 2 := by rw [← HV.out]; exact vE_none H6.out HX.out (by rw [hP.out, HD.out]; exact pr_none (by rw [HT.out]; exact hb))
            have HE := Lib.hid e
            clear e hq hT
            go_wp2
            go_ret
            exact ⟨ret_int HE.out.symm, rfl⟩
          · have k1 : decide (q < z) = false := by simp <;> omega
            have t1 : T ≤ 4096 := by omega
            have hP2 : Hid (pr 1 zs = pr T (zs.drop (k + 1))) := Lib.hid (by rw [hP.out, HD.out, pr_go (by rw [HT.out]; exact hb), HT.out])
            clear hq hb
            go_wp2
            go_round
            case rel => exact ⟨k + 1, T, rfl, by go_num, by omega, by omega, by omega, hP2⟩
            case measure => simp [intOf]; omega
        · have e : V = 0 := by
            rw [← HV.out]
            have h := hP.out
            rw [List.drop_of_length_le (by omega)] at h
            exact vE_some H6.out HX.out h
          have HE := Lib.hid e
          clear e
          go_wp2
          go_ret
          exact ⟨ret_int HE.out.symm, rfl⟩
    · rw [vE_low H6.out HX.out]
      go_enter Try.func58, Try.ntmps58
      go_wp2_with (go_at_call 74; refine (C.out).mono ?_; rintro e w' ⟨rfl, rfl⟩)
      go_ret
      exact ⟨rfl, rfl⟩
set_option maxHeartbeats 4000000 in
theorem c15 (p : Option Addr) (zs : List Int) (c : Nat) (w : World) (hn : zs.length ≤ maxLen) (RA : Hid (SlI w p zs)) :
    Calls Try.prog 61 #[.slice p zs.length c] w fun e w' => e = .returned (.int .i64 (vE zs)) ∧ w = w' := by
  unfold maxLen at hn
  by_cases h6 : 6 < zs.length
  · rw [vE_long h6]
    have l1 : decide ((6 : Int) < zs.length) = true := by simp <;> omega
    go_enter Try.func61, Try.ntmps61
    go_wp2
    go_ret
    exact ⟨rfl, rfl⟩
  · have l1 : decide ((6 : Int) < zs.length) = false := by simp <;> omega
    have l2 : decide (6 < zs.length) = false := by simp <;> omega
    have H6 := Lib.hid h6
    clear h6
    obtain ⟨V, hV⟩ : ∃ V, vE zs = V := ⟨_, rfl⟩
    rw [hV]
    have HV := Lib.hid hV
    clear hV
    go_enter Try.func61, Try.ntmps61
    go_wp2
    go_loop [3] (fun i => ∃ (k : Nat), i = .int .i64 k ∧ k ≤ zs.length ∧ Hid (∀ j, j < k → low (zs.getD j 0) = false)) (fun i => zs.length - (intOf i).toNat)
    case atStart => exact ⟨0, rfl, by omega, Lib.hid fun j hj => by omega⟩
    case round =>
      obtain ⟨k, rfl, hk, hL⟩ := hrel
      by_cases hlt : k < zs.length
      · obtain ⟨b, o, rfl, hc⟩ := RA.out k hlt
        obtain ⟨z, hz⟩ : ∃ z, zs.getD k 0 = z := ⟨_, rfl⟩
        rw [hz] at hc
        have HZ := Lib.hid hz
        clear hz
        by_cases hz1 : z < 1
        · have k1 : decide (z < 1) = true := by simpa using hz1
          have e : V = 1 := by rw [← HV.out]; exact vE_low H6.out (any_at (k := k) (by rw [HZ.out]; exact k1) hlt)
          have HE := Lib.hid e
          clear e hz1
          go_wp2
          go_ret
          exact ⟨ret_int HE.out.symm, rfl⟩
        · have k1 : decide (z < 1) = false := by simpa using hz1
          have hL2 : Hid (∀ j, j < k + 1 → low (zs.getD j 0) = false) := Lib.hid fun j hj => by
            rcases (by omega : j < k ∨ j = k) with h | rfl
            · exact hL.out j h
            · rw [HZ.out]; exact k1
          clear hz1
          go_wp2
          go_round
          case rel => exact ⟨k + 1, by go_num, by omega, hL2⟩
          case measure => simp [intOf]; omega
      · have HX : Hid (zs.any low = false) := Lib.hid (any_take (k := k) hL.out (by omega))
        clear hL
        go_wp2
        go_loop [4, 5] (fun s i => ∃ (k : Nat) (S : Int), s = .int .i64 S ∧ i = .int .i64 k ∧ k ≤ zs.length ∧ 1 ≤ S ∧ S ≤ 4096 ∧ Hid (pr 1 zs = pr S (zs.drop k))) (fun _ i => zs.length - (intOf i).toNat)
        case atStart => exact ⟨0, 1, rfl, rfl, by omega, by omega, by omega, Lib.hid rfl⟩
        case round =>
          obtain ⟨m, S, rfl, rfl, hm, s0, s1, hP⟩ := hrel
          by_cases hlt : m < zs.length
          · obtain ⟨b, o, rfl, hc⟩ := RA.out m hlt
            have z1 := pos_of HX.out hlt
            have hd := drop_cons hlt
            obtain ⟨z, hz⟩ : ∃ z, zs.getD m 0 = z := ⟨_, rfl⟩
            rw [hz] at hc z1 hd
            have HD := Lib.hid hd
            clear hz hd
            by_cases hz2 : 4096 < z
            · have k1 : decide (4096 < z) = true := by simpa using hz2
              have e : V = 2 := by
                rw [← HV.out]
                refine vE_none H6.out HX.out ?_
                rw [hP.out, HD.out]
                refine pr_none ?_
                have := Int.mul_le_mul_of_nonneg_right s0 (by omega : 0 ≤ z)
                omega
              have HE := Lib.hid e
              clear e hz2
              go_wp2
              go_ret
              exact ⟨ret_int HE.out.symm, rfl⟩
            · have k1 : decide (4096 < z) = false := by simpa using hz2
              obtain ⟨T, hT⟩ : ∃ T, S * z = T := ⟨_, rfl⟩
              have t0 : 0 < T := by rw [← hT]; exact Int.mul_pos (by omega) (by omega)
              have t2 : T ≤ 16777216 := by
                have h1 := Int.mul_le_mul_of_nonneg_right s1 (by omega : 0 ≤ z)
                omega
              have HT := Lib.hid hT
              by_cases hb : 4096 < T
              · have k2 : decide (4096 < T) = true := by simpa using hb
                have e : V = 2 := by rw [← HV.out]; exact vE_none H6.out HX.out (by rw [hP.out, HD.out]; exact pr_none (by rw [HT.out]; exact hb))
                have HE := Lib.hid e
                clear e hz2 hb
                go_wp2
                go_ret
                exact ⟨ret_int HE.out.symm, rfl⟩
              · have k2 : decide (4096 < T) = false := by simpa using hb
                have t1 : T ≤ 4096 := by omega
                have hP2 : Hid (pr 1 zs = pr T (zs.drop (m + 1))) := Lib.hid (by rw [hP.out, HD.out, pr_go (by rw [HT.out]; exact hb), HT.out])
                clear hz2 hb
                go_wp2
                go_round
                case rel => exact ⟨m + 1, T, rfl, by go_num, by omega, by omega, by omega, hP2⟩
                case measure => simp [intOf]; omega
          · have e : V = 0 := by
              rw [← HV.out]
              have h := hP.out
              rw [List.drop_of_length_le (by omega)] at h
              exact vE_some H6.out HX.out h
            have HE := Lib.hid e
            clear e
            go_wp2
            go_ret
            exact ⟨ret_int HE.out.symm, rfl⟩
theorem vE_zero {zs : List Int} (h : vE zs = 0) : zs.length ≤ 6 ∧ zs.any low = false ∧ ∃ P, pr 1 zs = some P := by
  unfold vE at h
  by_cases h1 : 6 < zs.length
  · rw [if_pos h1] at h; cases h
  · rw [if_neg h1] at h
    by_cases h2 : zs.any low = true
    · rw [if_pos h2] at h; cases h
    · rw [if_neg h2] at h
      by_cases h3 : pr 1 zs = none
      · rw [if_pos h3] at h; cases h
      · exact ⟨by omega, by simpa using h2, Option.ne_none_iff_exists'.1 h3⟩
def sz (zs : List Int) : Int := if vE zs = 0 then (pr 1 zs).getD 0 else 0
/-- The product of a list. -/
def sp : List Int → Int
  | [] => 1
  | z :: zs => sp zs * z
theorem sp_pos : ∀ {zs : List Int}, zs.any low = false → 1 ≤ sp zs
  | [], _ => by decide
  | z :: zs, h => by
    simp only [List.any_cons, Bool.or_eq_false_iff] at h
    have h1 := sp_pos h.2
    have h2 : 1 ≤ z := by have := h.1; unfold low at this; simp at this; omega
    have := Int.mul_le_mul h1 h2 (by decide) (by omega)
    show 1 ≤ sp zs * z
    omega
theorem pr_sp : ∀ {zs : List Int} {s P : Int}, pr s zs = some P → P = s * sp zs
  | [], s, P, h => by
    unfold pr at h
    cases h
    show s = s * 1
    omega
  | z :: zs, s, P, h => by
    by_cases hb : 4096 < s * z
    · rw [pr_none hb] at h; cases h
    · rw [pr_go hb] at h
      rw [pr_sp h]
      show s * z * sp zs = s * (sp zs * z)
      rw [Int.mul_assoc, Int.mul_comm z]
theorem pr_le : ∀ {zs : List Int} {s P : Int}, s ≤ 4096 → pr s zs = some P → P ≤ 4096
  | [], s, P, h0, h => by unfold pr at h; cases h; exact h0
  | z :: zs, s, P, h0, h => by
    by_cases hb : 4096 < s * z
    · rw [pr_none hb] at h; cases h
    · rw [pr_go hb] at h
      exact pr_le (by omega) h
theorem any_drop {zs : List Int} (h : zs.any low = false) (k : Nat) : (zs.drop k).any low = false := by
  rw [List.any_eq_false] at h ⊢
  intro x hx
  exact h x (List.mem_of_mem_drop hx)
theorem sp_drop_le {zs : List Int} (h : zs.any low = false) : ∀ k, sp (zs.drop k) ≤ sp zs := by
  induction zs with
  | nil => intro k; simp
  | cons z zs ih =>
    intro k
    simp only [List.any_cons, Bool.or_eq_false_iff] at h
    cases k with
    | zero => exact Int.le_refl _
    | succ k =>
      have h1 := ih h.2 k
      have h2 : 1 ≤ z := by have := h.1; unfold low at this; simp at this; omega
      have h3 := sp_pos h.2
      have := Int.mul_le_mul_of_nonneg_left h2 (by omega : 0 ≤ sp zs)
      show sp (zs.drop k) ≤ sp zs * z
      omega
/-- What a valid list is. -/
theorem valid_of {zs : List Int} (h : vE zs = 0) : zs.length ≤ 6 ∧ zs.any low = false ∧ pr 1 zs = some (sp zs) ∧ sp zs ≤ 4096 ∧ ∀ k, 1 ≤ sp (zs.drop k) ∧ sp (zs.drop k) ≤ 4096 := by
  obtain ⟨h1, h2, P, h3⟩ := vE_zero h
  have e := pr_sp h3
  have l := pr_le (by decide) h3
  rw [Int.one_mul] at e
  subst e
  exact ⟨h1, h2, h3, l, fun k => ⟨sp_pos (any_drop h2 k), Int.le_trans (sp_drop_le h2 k) l⟩⟩
theorem info3 : (Try.prog.info? 3).map (fun i => (i.zero, i.size, i.bytes)) = some (some (.int .i64 0), 1, 8) := by kernel_rfl
/-- A slice of integers that the call has made. -/
def OW (l : List Int) (w : World) (e : Ending) (w' : World) : Prop := ∃ v, e = .returned v ∧ Below w.heap.size w w' ∧ w'.ownsRow w.heap.size 3 1 v l.length (l.map (Value.int .i64))
theorem below_own {w w' : World} {B : Nat} (hB : B ≤ w.heap.size) (h : w.grownBy w' none) : Below B w w' := by
  exact (Below.refl _ _).grown h hB (fun k hk => by cases hk)
theorem cells_of {w : World} {base g n cap j : Nat} {xs : List Int} (h : w.ownsRow base 3 1 (.slice (some ⟨g, 0, none⟩) n cap) n (xs.map (Value.int .i64))) (hj : j < n) (hx : xs.length = n) :
    w.cell? ⟨g, j, none⟩ = some (.int .i64 (xs.getD j 0)) := by
  rw [h.cellAt j (by omega), List.getElem?_map, List.getElem?_eq_getElem (by omega), getD_at (by omega)]
  rfl
theorem Rg.keep' {y y' : World} {B b o : Nat} {v : Value} (hy : Below B y y') (hb : b < B) (h : y.cell? ⟨b, o, none⟩ = some v) : y'.cell? ⟨b, o, none⟩ = some v := (hy.cell (p := ⟨b, o, none⟩) hb).trans h
/-- A suffix of a valid list is valid. -/
theorem vE_drop {zs : List Int} (h : vE zs = 0) (k : Nat) : vE (zs.drop k) = 0 := by
  obtain ⟨h6, hl, hP, hS, hD⟩ := valid_of h
  have e := any_drop hl k
  have key : ∀ (ys : List Int) (s : Int), 1 ≤ s → ys.any low = false → s * sp ys ≤ 4096 → pr s ys = some (s * sp ys) := by
    intro ys
    induction ys with
    | nil => intro s _ _ _; unfold pr sp; rw [Int.mul_one]
    | cons z ys ih =>
      intro s h1 h2 h3
      simp only [List.any_cons, Bool.or_eq_false_iff] at h2
      have hz : 1 ≤ z := by have := h2.1; unfold low at this; simp at this; omega
      have hp := sp_pos h2.2
      have h4 : s * sp (z :: ys) = s * z * sp ys := by
        show s * (sp ys * z) = _
        rw [Int.mul_assoc, Int.mul_comm z]
      rw [h4] at h3 ⊢
      have h5 : 1 ≤ s * z := by have := Int.mul_pos (by omega : 0 < s) (by omega : 0 < z); omega
      have h6 := Int.mul_le_mul_of_nonneg_left hp (by omega : 0 ≤ s * z)
      rw [pr_go (by omega)]
      exact ih (s * z) h5 h2.2 h3
  have hk := hD k
  exact vE_some (s := 1 * sp (zs.drop k)) (by rw [List.length_drop]; omega) e (key _ 1 (by decide) e (by omega))
theorem sz_drop {zs : List Int} (h : vE zs = 0) (k : Nat) : sz (zs.drop k) = sp (zs.drop k) := by
  have h2 := vE_drop h k
  obtain ⟨_, _, hP, _⟩ := valid_of h2
  unfold sz
  rw [if_pos h2, hP]
  rfl
theorem SlI.drop {w : World} {b o : Nat} {zs : List Int} (h : SlI w (some ⟨b, o, none⟩) zs) (k : Nat) : SlI w (some ⟨b, o + k, none⟩) (zs.drop k) := by
  intro i hi
  rw [List.length_drop] at hi
  obtain ⟨b', o', e, hc⟩ := h (k + i) (by omega)
  cases e
  refine ⟨b, o + k, rfl, ?_⟩
  rw [getD_at (by rw [List.length_drop]; omega), List.getElem_drop, ← getD_at (by omega), Nat.add_assoc]
  exact hc
theorem SlI.keep {w w' : World} {p : Option Addr} {zs : List Int} (hB : Below w.heap.size w w') (h : SlI w p zs) : SlI w' p zs := by
  intro i hi
  obtain ⟨b, o, e, hc⟩ := h i hi
  exact ⟨b, o, e, Rg.keep' hB (by have := World.block_lt_of_cell? w _ hc; simpa using this) hc⟩
def Ret (v : Value) (w : World) (e : Ending) (w' : World) : Prop := e = .returned v ∧ Below w.heap.size w w'
/-- The offset of an index, as long as it lies in the shape. -/
def of : Int → List Int → List Int → Option Int
  | n, z :: zs, x :: xs => if 0 ≤ x ∧ x < z then of (n * z + x) zs xs else none
  | n, _, _ => some n
theorem add_at (b o j : Nat) : (⟨b, o, none⟩ : Addr).add j = ⟨b, o + j, none⟩ := by
  unfold Addr.add
  split
  · next h => subst h; rfl
  · rfl
set_option maxHeartbeats 4000000 in
/-- slices.Clone of a slice that is not nil. -/
theorem c48 (b o : Nat) (zs : List Int) (c : Nat) (w : World) (hn : zs.length ≤ maxLen) (hby : zs.length * 8 ≤ 140737488355328) (RA : Hid (SlI w (some ⟨b, o, none⟩) zs)) :
    Calls Try.prog 73 #[.slice (some ⟨b, o, none⟩) zs.length c] w (OW zs w) := by
  obtain ⟨i0, hi, hz0, hz1, hz2⟩ := info_parts info3
  have RN := Lib.hid (fun o' : Obj => SlI.keep (w' := w.alloc o') ((Below.refl _ _).alloc (Nat.le_refl _) _) RA.out)
  have HN := Lib.hid hn
  have HB := Lib.hid hby
  clear hn hby
  have EN : (binOp .eql 34 (.slice (some ⟨b, o, none⟩) zs.length c) (.slice none 0 0)).run Try.prog w = .ok (.bool false) w := by kernel_rfl
  go_enter Try.func73, Try.ntmps73
  go_wp2_with (at_builtin; refine wpList_append_own _ rfl _ _ 34 rfl w.heap.size 3 i0 (.int .i64 0) 1 8 Try.underlying34 hi hz0 hz1 hz2 rfl (by decide) _ _ _ rfl (World.ownsRow_lit w #[] 0 (Nat.le_refl _) (by decide) rfl) ⟨b, o, none⟩ zs.length c (zs.map (Value.int .i64)) rfl ?_ ?_ ?_ ?_ ?_ ?_ ?_)
  · simp
  · intro j u hj
    rw [List.getElem?_map] at hj
    have hj2 : j < zs.length := by
      by_cases h : j < zs.length
      · exact h
      · rw [List.getElem?_eq_none (by omega)] at hj; cases hj
    rw [List.getElem?_eq_getElem hj2] at hj
    cases hj
    obtain ⟨b', o', e, hc⟩ := RN.out (.cells #[] 3 (0, 0)) j hj2
    cases e
    rw [getD_at hj2] at hc
    rw [add_at]
    exact hc
  · intro u hu
    obtain ⟨x, _, rfl⟩ := List.mem_map.1 hu
    rfl
  · rw [Nat.zero_add]; exact HN.out
  · rw [Nat.zero_add]; exact HB.out
  · simp
  intro v' w1 hown' hgrow _
  have hO2 : Hid (w1.ownsRow w.heap.size 3 1 v' zs.length (zs.map (Value.int .i64))) := Lib.hid (by first | exact hown' | (have h := hown'; rw [Nat.zero_add] at h; exact h))
  have hB2 : Below w.heap.size w w1 := ((Below.refl _ _).alloc (Nat.le_refl _) _).grown hgrow (by simp) (fun j hj => by cases hj; exact Nat.le_refl _)
  clear hown' hgrow hi hz0 hz1 hz2
  go_wp2
  go_ret
  exact ⟨_, rfl, hB2, hO2.out⟩
/-- The index with an offset. -/
def pt (zs : List Int) (a : Int) : List Int := (List.range zs.length).map fun j => (a / sp (zs.drop (j + 1))) % zs.getD j 0
def pA (zs : List Int) (a : Int) : Bool := decide (0 ≤ a ∧ a < sz zs)
def pL (zs : List Int) (a : Int) : List Int := if pA zs a = true then pt zs a else []
theorem pt_length (zs : List Int) (a : Int) : (pt zs a).length = zs.length := by simp [pt]
theorem pt_get {zs : List Int} {a : Int} {j : Nat} (h : j < zs.length) : (pt zs a).getD j 0 = (a / sp (zs.drop (j + 1))) % zs.getD j 0 := by
  rw [getD_at (by rw [pt_length]; exact h)]
  simp [pt]
/-- A slice that the call has made, and whether there is an answer. -/
def PW (l : List Int) (t : Bool) (w : World) (e : Ending) (w' : World) : Prop := ∃ v, e = .returned (.tuple #[v, .bool t]) ∧ Below w.heap.size w w' ∧ w'.ownsRow w.heap.size 3 1 v l.length (l.map (Value.int .i64))
theorem sz_ok {zs : List Int} (h : vE zs = 0) : sz zs = sp zs := sz_drop (zs := zs) h 0
theorem sz_no {zs : List Int} (h : ¬ vE zs = 0) : sz zs = 0 := by unfold sz; rw [if_neg h]
theorem pA_valid {zs : List Int} {a : Int} (h : pA zs a = true) : vE zs = 0 ∧ 0 ≤ a ∧ a < sp zs := by
  unfold pA at h
  have h := of_decide_eq_true h
  by_cases hv : vE zs = 0
  · rw [sz_ok hv] at h; exact ⟨hv, h⟩
  · rw [sz_no hv] at h; omega
theorem pt_step {a s z : Int} (hs : 1 ≤ s) : a / s / z = a / (s * z) := Int.ediv_ediv_of_nonneg (by omega)
theorem pr_ok : ∀ (ys : List Int) (s : Int), 1 ≤ s → ys.any low = false → s * sp ys ≤ 4096 → pr s ys = some (s * sp ys) := by
  intro ys
  induction ys with
  | nil => intro s _ _ _; unfold pr sp; rw [Int.mul_one]
  | cons z ys ih =>
    intro s h1 h2 h3
    simp only [List.any_cons, Bool.or_eq_false_iff] at h2
    have hz : 1 ≤ z := by have := h2.1; unfold low at this; simp at this; omega
    have hp := sp_pos h2.2
    have h4 : s * sp (z :: ys) = s * z * sp ys := by
      show s * (sp ys * z) = _
      rw [Int.mul_assoc, Int.mul_comm z]
    rw [h4] at h3 ⊢
    have h5 : 1 ≤ s * z := by have := Int.mul_pos (by omega : 0 < s) (by omega : 0 < z); omega
    have h6 := Int.mul_le_mul_of_nonneg_left hp (by omega : 0 ≤ s * z)
    rw [pr_go (by omega)]
    exact ih (s * z) h5 h2.2 h3
set_option maxHeartbeats 4000000 in
theorem c48_none (c : Nat) (w : World) : Calls Try.prog 73 #[.slice none 0 c] w (OW [] w) := by
  have EN : (binOp .eql 34 (.slice none 0 c) (.slice none 0 0)).run Try.prog w = .ok (.bool true) w := by kernel_rfl
  go_enter Try.func73, Try.ntmps73
  go_wp2
  go_ret
  exact ⟨_, rfl, Below.refl _ _, World.ownsRow_nil _ _ _ _⟩
set_option maxHeartbeats 4000000 in
theorem c48_empty (ad : Addr) (c : Nat) (w : World) : Calls Try.prog 73 #[.slice (some ad) 0 c] w (OW [] w) := by
  obtain ⟨i0, hi, hz0, hz1, hz2⟩ := info_parts info3
  have EN : (binOp .eql 34 (.slice (some ad) 0 c) (.slice none 0 0)).run Try.prog w = .ok (.bool false) w := by kernel_rfl
  go_enter Try.func73, Try.ntmps73
  go_wp2_with (at_builtin; refine wpList_append_own _ rfl _ _ 34 rfl w.heap.size 3 i0 (.int .i64 0) 1 8 Try.underlying34 hi hz0 hz1 hz2 rfl (by decide) _ _ _ rfl (World.ownsRow_lit w #[] 0 (Nat.le_refl _) (by decide) rfl) ad 0 c [] rfl rfl ?_ ?_ ?_ ?_ ?_ ?_)
  · intro j u hj; simp at hj
  · intro u hu; cases hu
  · decide
  · decide
  · simp
  intro v' w1 hown' hgrow _
  have hB2 : Below w.heap.size w w1 := ((Below.refl _ _).alloc (Nat.le_refl _) _).grown hgrow (by simp) (fun j hj => by cases hj; exact Nat.le_refl _)
  have hO2 := Lib.hid hown'
  clear hown' hgrow hi hz0 hz1 hz2
  go_wp2
  go_ret
  exact ⟨_, rfl, hB2, hO2.out⟩
/-- slices.Clone of any slice. -/
theorem c48g (p : Option Addr) (zs : List Int) (c : Nat) (w : World) (hn : zs.length ≤ maxLen) (hby : zs.length * 8 ≤ 140737488355328) (RA : Hid (SlI w p zs)) :
    Calls Try.prog 73 #[.slice p zs.length c] w (OW zs w) := by
  by_cases h : zs.length = 0
  · obtain rfl := List.eq_nil_of_length_eq_zero h
    cases p with
    | none => exact c48_none c w
    | some ad => exact c48_empty ad c w
  · obtain ⟨b, o, rfl, _⟩ := RA.out 0 (by omega)
    exact c48 b o zs c w hn hby RA
/-- A valid mesh. -/
def mok (zs : List Int) : Bool := decide (1 ≤ zs.length ∧ zs.length ≤ 3) && (!zs.any low && decide (sp zs ≤ 16))
def mV (zs : List Int) : Int := if mok zs = true then 0 else 23
theorem mok_iff {zs : List Int} : mok zs = true ↔ (1 ≤ zs.length ∧ zs.length ≤ 3) ∧ zs.any low = false ∧ sp zs ≤ 16 := by
  unfold mok
  simp
theorem mV_ok {zs : List Int} (h : mok zs = true) : mV zs = 0 := if_pos h
theorem mV_no {zs : List Int} (h : ¬ mok zs = true) : mV zs = 23 := if_neg h
theorem mok_big {zs : List Int} {k : Nat} {S z : Int} (hk : k < zs.length) (hz : zs.getD k 0 = z) (s0 : 1 ≤ S) (hS : S * sp (zs.drop k) = sp zs) (hb : 16 < S * z) : ¬ mok zs = true := by
  intro h
  obtain ⟨_, hl, hs⟩ := mok_iff.1 h
  have h1 := sp_pos (any_drop hl (k + 1))
  rw [drop_cons hk, hz] at hS
  change S * (sp (zs.drop (k + 1)) * z) = sp zs at hS
  rw [Int.mul_comm (sp _) z, ← Int.mul_assoc] at hS
  have := Int.mul_le_mul_of_nonneg_left h1 (by omega : 0 ≤ S * z)
  omega
theorem mok_low {zs : List Int} {k : Nat} (hk : k < zs.length) (hz : zs.getD k 0 < 1) : ¬ mok zs = true := by
  intro h
  obtain ⟨_, hl, hs⟩ := mok_iff.1 h
  have := pos_of hl hk
  omega
theorem mok_mul {zs : List Int} {k : Nat} {S z : Int} (hk : k < zs.length) (hz : zs.getD k 0 = z) (hS : S * sp (zs.drop k) = sp zs) : S * z * sp (zs.drop (k + 1)) = sp zs := by
  rw [← hS, drop_cons hk, hz]
  change _ = S * (sp (zs.drop (k + 1)) * z)
  rw [Int.mul_comm (sp _) z, ← Int.mul_assoc]
theorem mok_end {zs : List Int} {k : Nat} {S : Int} (hk : k = zs.length) (h13 : 1 ≤ zs.length ∧ zs.length ≤ 3) (hL : ∀ j, j < k → low (zs.getD j 0) = false) (hS : S * sp (zs.drop k) = sp zs) (h : S ≤ 16) : mok zs = true := by
  refine mok_iff.2 ⟨h13, any_take hL hk, ?_⟩
  rw [List.drop_of_length_le (by omega)] at hS
  change S * 1 = sp zs at hS
  omega
theorem mok_over {zs : List Int} {k : Nat} {S : Int} (hk : k = zs.length) (hS : S * sp (zs.drop k) = sp zs) (h : 16 < S) : ¬ mok zs = true := by
  intro h2
  obtain ⟨_, hl, hs⟩ := mok_iff.1 h2
  rw [List.drop_of_length_le (by omega)] at hS
  change S * 1 = sp zs at hS
  omega
theorem quo16 (s z : Int) (hs : 1 ≤ s) : 16 / s < z ↔ 16 < s * z := by
  constructor
  · intro h
    have h1 := Int.lt_mul_of_ediv_lt (by omega : 0 < s) h
    rw [Int.mul_comm] at h1
    exact h1
  · intro h
    rw [Int.mul_comm] at h
    exact Int.ediv_lt_of_lt_mul (by omega : 0 < s) h
theorem low_step {zs : List Int} {k : Nat} {z : Int} (hL : ∀ j, j < k → low (zs.getD j 0) = false) (hz : zs.getD k 0 = z) (h : 1 ≤ z) : ∀ j, j < k + 1 → low (zs.getD j 0) = false := fun j hj => by
  rcases (by omega : j < k ∨ j = k) with h' | rfl
  · exact hL j h'
  · rw [hz]; exact decide_eq_false (by omega)
set_option maxHeartbeats 4000000 in
theorem c37 (p : Option Addr) (zs : List Int) (c : Nat) (w : World) (hn : zs.length ≤ maxLen) (RA : Hid (SlI w p zs)) :
    Calls Try.prog 57 #[.agg #[.slice p zs.length c]] w (Ret (.int .i64 (mV zs)) w) := by
  unfold maxLen at hn
  by_cases h1 : zs.length < 1
  · have e : mV zs = 23 := mV_no fun h => by have := (mok_iff.1 h).1; omega
    have k1 : decide ((zs.length : Int) < 1) = true := decide_eq_true (by omega)
    have k2 : decide (zs.length < 1) = true := decide_eq_true (by omega)
    rw [e]
    clear e
    go_enter Try.func57, Try.ntmps57
    go_wp2
    go_ret
    exact ⟨rfl, (Below.refl _ _).alloc (Nat.le_refl _) _⟩
  · by_cases h3 : 3 < zs.length
    · have e : mV zs = 23 := mV_no fun h => by have := (mok_iff.1 h).1; omega
      have k1 : decide ((zs.length : Int) < 1) = false := decide_eq_false (by omega)
      have k2 : decide (zs.length < 1) = false := decide_eq_false (by omega)
      have k3 : decide (3 < (zs.length : Int)) = true := decide_eq_true (by omega)
      have k4 : decide (3 < zs.length) = true := decide_eq_true (by omega)
      rw [e]
      clear e
      go_enter Try.func57, Try.ntmps57
      go_wp2
      go_ret
      exact ⟨rfl, (Below.refl _ _).alloc (Nat.le_refl _) _⟩
    · have k1 : decide ((zs.length : Int) < 1) = false := decide_eq_false (by omega)
      have k2 : decide (zs.length < 1) = false := decide_eq_false (by omega)
      have k3 : decide (3 < (zs.length : Int)) = false := decide_eq_false (by omega)
      have k4 : decide (3 < zs.length) = false := decide_eq_false (by omega)
      have k5 : (zs.length == 0) = false := beq_false_of_ne (by omega)
      obtain ⟨V, hV⟩ : ∃ V, mV zs = V := ⟨_, rfl⟩
      rw [hV]
      have HV := Lib.hid hV
      have H13 : Hid (1 ≤ zs.length ∧ zs.length ≤ 3) := Lib.hid ⟨by omega, by omega⟩
      have hlen : zs.length ≤ 3 := by omega
      clear hV h1 h3
      go_enter Try.func57, Try.ntmps57
      go_wp2
      go_loopw [3, 18] (fun s i wr => ∃ (k : Nat) (S : Int) (m : Nat), wr = (w.alloc (Obj.cells #[Value.slice p zs.length c] 48)).drewN m ∧ s = .int .i64 S ∧ i = .int .i64 k ∧ k ≤ zs.length ∧ 1 ≤ S ∧ S ≤ 16 ∧ Hid (∀ j, j < k → low (zs.getD j 0) = false) ∧ Hid (S * sp (zs.drop k) = sp zs)) (fun _ i _ => zs.length - (intOf i).toNat)
      case atStart => exact ⟨0, 1, 0, rfl, rfl, rfl, by omega, by omega, by omega, Lib.hid fun j hj => by omega, Lib.hid (by rw [Int.one_mul]; rfl)⟩
      case round =>
        obtain ⟨k, S, m, rfl, rfl, rfl, hk, s0, s1, hL, hS⟩ := hrel
        have sz : (S == 0) = false := beq_false_of_ne (by omega)
        by_cases hlt : k < zs.length
        · obtain ⟨b, o, rfl, hc⟩ := RA.out k hlt
          have hb : b < w.heap.size := by have := World.block_lt_of_cell? w _ hc; simpa using this
          have hc := Rg.keep' ((Below.refl _ _).alloc (Nat.le_refl _) (Obj.cells #[Value.slice (some ⟨b, o, none⟩) zs.length c] 48)) hb hc
          obtain ⟨z, hz⟩ : ∃ z, zs.getD k 0 = z := ⟨_, rfl⟩
          rw [hz] at hc
          have i0 : (0 : Int) ≤ k := by omega
          have i1 : (k : Int) < zs.length := by omega
          by_cases hz1 : z < 1
          · have e : V = 23 := by rw [← HV.out]; exact mV_no (mok_low hlt (by omega))
            have HE := Lib.hid e
            have q1 : decide (z < 1) = true := decide_eq_true hz1
            clear e hz hz1
            go_wp2
            go_quiet (fail)
            go_wp2
            go_ret
            exact ⟨ret_int HE.out.symm, by (repeat refine below_drewN ?_ _); exact (Below.refl _ _).alloc (Nat.le_refl _) _⟩
          · have q1 : decide (z < 1) = false := decide_eq_false hz1
            have hq := quo16 S z s0
            obtain ⟨q, hQ⟩ : ∃ q, 16 / S = q := ⟨_, rfl⟩
            rw [hQ] at hq
            obtain ⟨T, hT⟩ : ∃ T, S * z = T := ⟨_, rfl⟩
            have hmul := mok_mul hlt hz hS.out
            have HB : Hid (16 < S * z → ¬ mok zs = true) := Lib.hid (mok_big hlt hz s0 hS.out)
            have HL2 := Lib.hid (low_step hL.out hz (by omega))
            have t0 : 0 < T := by rw [← hT]; exact Int.mul_pos (by omega) (by omega)
            rw [hT] at hmul hq HB
            have HM := Lib.hid hmul
            clear hz hmul hL hS
            by_cases hb : 16 < T
            · have k1 : decide (q < z) = true := decide_eq_true (by omega)
              have e : V = 23 := by rw [← HV.out]; exact mV_no (HB.out hb)
              have HE := Lib.hid e
              clear e hq hT hz1
              go_wp2
              go_quiet (fail)
              go_wp2
              go_ret
              exact ⟨ret_int HE.out.symm, by (repeat refine below_drewN ?_ _); exact (Below.refl _ _).alloc (Nat.le_refl _) _⟩
            · have k1 : decide (q < z) = false := decide_eq_false (by omega)
              have t1 : T ≤ 16 := by omega
              clear hq hz1 hb
              go_wp2
              go_quiet (fail)
              go_wp2
              go_roundw
              case rel => exact ⟨k + 1, T, m + nq, by first | rfl | rw [World.drewN_drewN], rfl, by go_num, by omega, by omega, by omega, HL2, HM⟩
              case measure => simp [intOf]; omega
        · have e : V = 0 := by rw [← HV.out]; exact mV_ok (mok_end (k := k) (by omega) H13.out hL.out hS.out s1)
          have HE := Lib.hid e
          clear e
          go_wp2
          go_ret
          exact ⟨ret_int HE.out.symm, by (repeat refine below_drewN ?_ _); exact (Below.refl _ _).alloc (Nat.le_refl _) _⟩
set_option maxHeartbeats 4000000 in
theorem c38 (p : Option Addr) (zs : List Int) (c : Nat) (w : World) (hn : zs.length ≤ maxLen) (RA : Hid (SlI w p zs)) :
    Calls Try.prog 60 #[.agg #[.slice p zs.length c]] w (Ret (.int .i64 (mV zs)) w) := by
  unfold maxLen at hn
  by_cases h1 : zs.length < 1
  · have e : mV zs = 23 := mV_no fun h => by have := (mok_iff.1 h).1; omega
    have k1 : decide ((zs.length : Int) < 1) = true := decide_eq_true (by omega)
    have k2 : decide (zs.length < 1) = true := decide_eq_true (by omega)
    rw [e]
    clear e
    go_enter Try.func60, Try.ntmps60
    go_wp2
    go_ret
    exact ⟨rfl, (Below.refl _ _).alloc (Nat.le_refl _) _⟩
  · by_cases h3 : 3 < zs.length
    · have e : mV zs = 23 := mV_no fun h => by have := (mok_iff.1 h).1; omega
      have k1 : decide ((zs.length : Int) < 1) = false := decide_eq_false (by omega)
      have k2 : decide (zs.length < 1) = false := decide_eq_false (by omega)
      have k3 : decide (3 < (zs.length : Int)) = true := decide_eq_true (by omega)
      have k4 : decide (3 < zs.length) = true := decide_eq_true (by omega)
      rw [e]
      clear e
      go_enter Try.func60, Try.ntmps60
      go_wp2
      go_ret
      exact ⟨rfl, (Below.refl _ _).alloc (Nat.le_refl _) _⟩
    · have k1 : decide ((zs.length : Int) < 1) = false := decide_eq_false (by omega)
      have k2 : decide (zs.length < 1) = false := decide_eq_false (by omega)
      have k3 : decide (3 < (zs.length : Int)) = false := decide_eq_false (by omega)
      have k4 : decide (3 < zs.length) = false := decide_eq_false (by omega)
      have k5 : (zs.length == 0) = false := beq_false_of_ne (by omega)
      obtain ⟨V, hV⟩ : ∃ V, mV zs = V := ⟨_, rfl⟩
      rw [hV]
      have HV := Lib.hid hV
      have H13 : Hid (1 ≤ zs.length ∧ zs.length ≤ 3) := Lib.hid ⟨by omega, by omega⟩
      have hlen : zs.length ≤ 3 := by omega
      clear hV h1 h3
      go_enter Try.func60, Try.ntmps60
      go_wp2
      go_loopw [3, 4] (fun s i wr => ∃ (k : Nat) (S : Int) (m : Nat), wr = (w.alloc (Obj.cells #[Value.slice p zs.length c] 48)).drewN m ∧ s = .int .i64 S ∧ i = .int .i64 k ∧ k ≤ zs.length ∧ 1 ≤ S ∧ S ≤ 4096 ∧ Hid (S ≤ 16 ^ k) ∧ Hid (∀ j, j < k → low (zs.getD j 0) = false) ∧ Hid (S * sp (zs.drop k) = sp zs)) (fun _ i _ => zs.length - (intOf i).toNat)
      case atStart => exact ⟨0, 1, 0, rfl, rfl, rfl, by omega, by omega, by omega, Lib.hid (by decide), Lib.hid fun j hj => by omega, Lib.hid (by rw [Int.one_mul]; rfl)⟩
      case round =>
        obtain ⟨k, S, m, rfl, rfl, rfl, hk, s0, s1, hP, hL, hS⟩ := hrel
        by_cases hlt : k < zs.length
        · obtain ⟨b, o, rfl, hc⟩ := RA.out k hlt
          have hb : b < w.heap.size := by have := World.block_lt_of_cell? w _ hc; simpa using this
          have hc := Rg.keep' ((Below.refl _ _).alloc (Nat.le_refl _) (Obj.cells #[Value.slice (some ⟨b, o, none⟩) zs.length c] 48)) hb hc
          obtain ⟨z, hz⟩ : ∃ z, zs.getD k 0 = z := ⟨_, rfl⟩
          rw [hz] at hc
          have i0 : (0 : Int) ≤ k := by omega
          have i1 : (k : Int) < zs.length := by omega
          by_cases hz1 : z < 1
          · have e : V = 23 := by rw [← HV.out]; exact mV_no (mok_low hlt (by omega))
            have HE := Lib.hid e
            have q1 : decide (z < 1) = true := decide_eq_true hz1
            clear e hz hz1
            go_wp2
            go_ret
            exact ⟨ret_int HE.out.symm, by (repeat refine below_drewN ?_ _); exact (Below.refl _ _).alloc (Nat.le_refl _) _⟩
          · have q1 : decide (z < 1) = false := decide_eq_false hz1
            by_cases hb : 16 < z
            · have k1 : decide (16 < z) = true := decide_eq_true (by omega)
              have e : V = 23 := by
                rw [← HV.out]
                refine mV_no (mok_big hlt hz s0 hS.out ?_)
                have := Int.mul_le_mul_of_nonneg_right s0 (by omega : 0 ≤ z)
                omega
              have HE := Lib.hid e
              clear e hz1 hz hb
              go_wp2
              go_ret
              exact ⟨ret_int HE.out.symm, by (repeat refine below_drewN ?_ _); exact (Below.refl _ _).alloc (Nat.le_refl _) _⟩
            · have k1 : decide (16 < z) = false := decide_eq_false (by omega)
              obtain ⟨T, hT⟩ : ∃ T, S * z = T := ⟨_, rfl⟩
              have hmul := mok_mul hlt hz hS.out
              have HL2 := Lib.hid (low_step hL.out hz (by omega))
              have t0 : 0 < T := by rw [← hT]; exact Int.mul_pos (by omega) (by omega)
              have hP2 : T ≤ 16 ^ (k + 1) := by
                rw [← hT, Int.pow_succ]
                exact Int.le_trans (Int.mul_le_mul_of_nonneg_right hP.out (by omega)) (Int.mul_le_mul_of_nonneg_left (by omega) (by exact Int.le_trans (by omega) hP.out))
              have t1 : T ≤ 4096 := by
                have : k = 0 ∨ k = 1 ∨ k = 2 := by omega
                rcases this with rfl | rfl | rfl <;> omega
              rw [hT] at hmul
              have HM := Lib.hid hmul
              have HP2 := Lib.hid hP2
              clear hz hmul hL hS hP2 hP hz1 hb
              go_wp2
              go_roundw
              case rel => exact ⟨k + 1, T, m, rfl, rfl, by go_num, by omega, by omega, by omega, HP2, HL2, HM⟩
              case measure => simp [intOf]; omega
        · by_cases hb : 16 < S
          · have k1 : decide (16 < S) = true := decide_eq_true (by omega)
            have e : V = 23 := by rw [← HV.out]; exact mV_no (mok_over (k := k) (by omega) hS.out hb)
            have HE := Lib.hid e
            clear e
            go_wp2
            go_ret
            exact ⟨ret_int HE.out.symm, by (repeat refine below_drewN ?_ _); exact (Below.refl _ _).alloc (Nat.le_refl _) _⟩
          · have k1 : decide (16 < S) = false := decide_eq_false (by omega)
            have e : V = 0 := by rw [← HV.out]; exact mV_ok (mok_end (k := k) (by omega) H13.out hL.out hS.out (by omega))
            have HE := Lib.hid e
            clear e
            go_wp2
            go_ret
            exact ⟨ret_int HE.out.symm, by (repeat refine below_drewN ?_ _); exact (Below.refl _ _).alloc (Nat.le_refl _) _⟩
/-- What a valid mesh gives. -/
theorem mok_facts {zs : List Int} (h : mok zs = true) : 1 ≤ zs.length ∧ zs.length ≤ 3 ∧ zs.any low = false ∧ 1 ≤ sp zs ∧ sp zs ≤ 16 ∧ vE zs = 0 := by
  obtain ⟨⟨h1, h3⟩, hl, hs⟩ := mok_iff.1 h
  have hp := sp_pos hl
  exact ⟨h1, h3, hl, hp, hs, vE_some (by omega) hl (pr_ok zs 1 (by omega) hl (by omega))⟩
theorem mok_el {zs : List Int} (h : mok zs = true) {k : Nat} (hk : k < zs.length) : 1 ≤ zs.getD k 0 ∧ zs.getD k 0 ≤ 16 := by
  obtain ⟨_, _, hl, _, hs, _⟩ := mok_facts h
  have h1 := pos_of hl hk
  refine ⟨h1, ?_⟩
  have h2 := sp_drop_le hl k
  rw [drop_cons hk] at h2
  change sp (zs.drop (k + 1)) * zs.getD k 0 ≤ sp zs at h2
  have := Int.mul_le_mul_of_nonneg_right (sp_pos (any_drop hl (k + 1))) (by omega : 0 ≤ zs.getD k 0)
  omega
set_option maxHeartbeats 4000000 in
/-- box.Validate of a valid mesh. -/
theorem c55 (p : Option Addr) (zs : List Int) (c : Nat) (w : World) (RA : Hid (SlI w p zs)) (hv : mok zs = true) :
    Calls Try.prog 81 #[.slice p zs.length c] w fun e w' => e = .returned (.int .i64 0) ∧ w = w' := by
  obtain ⟨h1, h3, hl, s0, s1, _⟩ := mok_facts hv
  have k3 : decide (16 < (zs.length : Int)) = false := decide_eq_false (by omega)
  have k4 : decide (16 < zs.length) = false := decide_eq_false (by omega)
  have HL := Lib.hid hl
  have HE := Lib.hid fun (k : Nat) (hk : k < zs.length) => mok_el hv hk
  have S0 := Lib.hid (show (1 : Int) * sp (zs.drop 0) = sp zs by rw [Int.one_mul]; rfl)
  have S1 := Lib.hid s1
  clear hl hv s0 s1
  go_enter Try.func81, Try.ntmps81
  go_wp2
  go_loop [3, 14] (fun t i => ∃ (k : Nat), t = .bool false ∧ i = .int .i64 k ∧ k ≤ zs.length) (fun _ i => zs.length - (intOf i).toNat)
  case atStart => exact ⟨0, rfl, rfl, by omega⟩
  case round =>
    obtain ⟨k, rfl, rfl, hk⟩ := hrel
    by_cases hlt : k < zs.length
    · obtain ⟨b, o, rfl, hc⟩ := RA.out k hlt
      obtain ⟨z0, z1⟩ := HE.out k hlt
      obtain ⟨z, hz⟩ : ∃ z, zs.getD k 0 = z := ⟨_, rfl⟩
      rw [hz] at hc z0 z1
      have q1 : decide (z < 0) = false := decide_eq_false (by omega)
      have q2 : (z == 0) = false := beq_false_of_ne (by omega)
      clear hz
      go_wp2
      go_round
      case rel => exact ⟨k + 1, rfl, by go_num, by omega⟩
      case measure => simp [intOf]; omega
    · go_wp2
      go_loop [6, 28] (fun s i => ∃ (k : Nat) (S : Int), s = .int .i64 S ∧ i = .int .i64 k ∧ k ≤ zs.length ∧ 1 ≤ S ∧ S ≤ 16 ∧ Hid (S * sp (zs.drop k) = sp zs)) (fun _ i => zs.length - (intOf i).toNat)
      case atStart => exact ⟨0, 1, rfl, rfl, by omega, by omega, by omega, S0⟩
      case round =>
        obtain ⟨m, S, rfl, rfl, hm, s0, s1, hS⟩ := hrel
        by_cases hlt2 : m < zs.length
        · obtain ⟨b, o, rfl, hc⟩ := RA.out m hlt2
          obtain ⟨z0, z1⟩ := HE.out m hlt2
          have hmul := mok_mul hlt2 rfl hS.out
          have hpos := sp_pos (any_drop HL.out (m + 1))
          obtain ⟨z, hz⟩ : ∃ z, zs.getD m 0 = z := ⟨_, rfl⟩
          rw [hz] at hc z0 z1 hmul
          obtain ⟨T, hT⟩ : ∃ T, S * z = T := ⟨_, rfl⟩
          rw [hT] at hmul
          have t0 : 1 ≤ T := by rw [← hT]; exact Int.mul_pos (by omega) (by omega)
          have t1 : T ≤ 16 := by
            have := Int.mul_le_mul_of_nonneg_left hpos (by omega : 0 ≤ T)
            have := S1.out
            omega
          have sz : (S == 0) = false := beq_false_of_ne (by omega)
          have hq : z ≤ 65536 / S := (Int.le_ediv_iff_mul_le (by omega)).2 (by rw [Int.mul_comm, hT]; omega)
          obtain ⟨q, hQ⟩ : ∃ q, 65536 / S = q := ⟨_, rfl⟩
          rw [hQ] at hq
          have k1 : decide (q < z) = false := decide_eq_false (by omega)
          have HM := Lib.hid hmul
          clear hz hmul hpos hq
          go_wp2
          go_round
          case rel => exact ⟨m + 1, T, rfl, by go_num, by omega, by omega, by omega, HM⟩
          case measure => simp [intOf]; omega
        · go_wp2
          go_ret
          exact ⟨rfl, rfl⟩
set_option maxHeartbeats 4000000 in
/-- slices.Index of nought among numbers that are none. -/
theorem c57 (p : Option Addr) (zs : List Int) (c : Nat) (w : World) (hn : zs.length ≤ maxLen) (RA : Hid (SlI w p zs)) (hl : Hid (zs.any low = false)) :
    Calls Try.prog 83 #[.slice p zs.length c, .int .i64 0] w fun e w' => e = .returned (.int .i64 (-1)) ∧ w = w' := by
  unfold maxLen at hn
  go_enter Try.func83, Try.ntmps83
  go_wp2
  go_loop [8] (fun i => ∃ (k : Nat), i = .int .i64 k ∧ k ≤ zs.length) (fun i => zs.length - (intOf i).toNat)
  case atStart => exact ⟨0, rfl, by omega⟩
  case round =>
    obtain ⟨k, rfl, hk⟩ := hrel
    by_cases hlt : k < zs.length
    · obtain ⟨b, o, rfl, hc⟩ := RA.out k hlt
      have z1 := pos_of hl.out hlt
      obtain ⟨z, hz⟩ : ∃ z, zs.getD k 0 = z := ⟨_, rfl⟩
      rw [hz] at hc z1
      have q2 : (0 == z) = false := beq_false_of_ne (by omega)
      clear hz
      go_wp2
      go_round
      case rel => exact ⟨k + 1, by go_num, by omega⟩
      case measure => simp [intOf]; omega
    · go_wp2
      go_ret
      exact ⟨rfl, rfl⟩
theorem c56 (p : Option Addr) (zs : List Int) (c : Nat) (w : World) (hn : zs.length ≤ maxLen) (RA : Hid (SlI w p zs)) (hl : Hid (zs.any low = false)) :
    Calls Try.prog 82 #[.slice p zs.length c, .int .i64 0] w fun e w' => e = .returned (.bool false) ∧ w = w' := by
  have C := Lib.hid (c57 p zs c w hn RA hl)
  go_enter Try.func82, Try.ntmps82
  go_wp2_with (go_at_call 83; refine (C.out).mono ?_; rintro e w' ⟨rfl, rfl⟩)
  go_ret
  exact ⟨rfl, rfl⟩
set_option maxHeartbeats 4000000 in
/-- box.Count of a valid mesh. -/
theorem c52 (p : Option Addr) (zs : List Int) (c : Nat) (w : World) (RA : Hid (SlI w p zs)) (hv : mok zs = true) :
    Calls Try.prog 80 #[.slice p zs.length c] w fun e w' => e = .returned (.int .i64 (sp zs)) ∧ w = w' := by
  obtain ⟨h1, h3, hl, s0, s1, _⟩ := mok_facts hv
  have HL := Lib.hid hl
  have C := Lib.hid (c55 p zs c w RA hv)
  have D := Lib.hid (c56 p zs c w (by unfold maxLen; omega) RA HL)
  have HE := Lib.hid fun (k : Nat) (hk : k < zs.length) => mok_el hv hk
  have S0 := Lib.hid (show (1 : Int) * sp (zs.drop 0) = sp zs by rw [Int.one_mul]; rfl)
  have S1 := Lib.hid s1
  clear hl hv s0 s1
  go_enter Try.func80, Try.ntmps80
  go_wp2_with (first | (go_at_call 81; refine (C.out).mono ?_; rintro e w' ⟨rfl, rfl⟩) | (go_at_call 82; refine (D.out).mono ?_; rintro e w' ⟨rfl, rfl⟩))
  go_loop [3, 15] (fun s i => ∃ (k : Nat) (S : Int), s = .int .i64 S ∧ i = .int .i64 k ∧ k ≤ zs.length ∧ 1 ≤ S ∧ S ≤ 16 ∧ Hid (S * sp (zs.drop k) = sp zs)) (fun _ i => zs.length - (intOf i).toNat)
  case atStart => exact ⟨0, 1, rfl, rfl, by omega, by omega, by omega, S0⟩
  case round =>
    obtain ⟨m, S, rfl, rfl, hm, s0, s1, hS⟩ := hrel
    by_cases hlt2 : m < zs.length
    · obtain ⟨b, o, rfl, hc⟩ := RA.out m hlt2
      obtain ⟨z0, z1⟩ := HE.out m hlt2
      have hmul := mok_mul hlt2 rfl hS.out
      have hpos := sp_pos (any_drop HL.out (m + 1))
      obtain ⟨z, hz⟩ : ∃ z, zs.getD m 0 = z := ⟨_, rfl⟩
      rw [hz] at hc z0 z1 hmul
      obtain ⟨T, hT⟩ : ∃ T, S * z = T := ⟨_, rfl⟩
      rw [hT] at hmul
      have t0 : 1 ≤ T := by rw [← hT]; exact Int.mul_pos (by omega) (by omega)
      have t1 : T ≤ 16 := by
        have := Int.mul_le_mul_of_nonneg_left hpos (by omega : 0 ≤ T)
        have := S1.out
        omega
      have HM := Lib.hid hmul
      clear hz hmul hpos
      go_wp2
      go_round
      case rel => exact ⟨m + 1, T, rfl, by go_num, by omega, by omega, by omega, HM⟩
      case measure => simp [intOf]; omega
    · have e : S = sp zs := by
        have h := hS.out
        rw [List.drop_of_length_le (by omega)] at h
        change S * 1 = sp zs at h
        omega
      have HE2 := Lib.hid e
      clear e
      go_wp2
      go_ret
      exact ⟨ret_int HE2.out, rfl⟩
def dv (zs : List Int) : Int := if mok zs = true then sp zs else 0
theorem mV_bad {zs : List Int} (h : ¬ mok zs = true) : (mV zs != 0) = true := by rw [mV_no h]; rfl
theorem boxed {w w' : World} {v : Value} {T : TypeId} (hb : Below (w.alloc (Obj.cells #[v] T)).heap.size (w.alloc (Obj.cells #[v] T)) w') : w'.cell? ⟨w.heap.size, 0, none⟩ = some v ∧ Below w.heap.size w w' :=
  ⟨by rw [hb.cell (p := ⟨w.heap.size, 0, none⟩) (by simp)]; go_cell, ((Below.refl _ _).alloc (Nat.le_refl _) _).trans (hb.mono (by simp))⟩
set_option maxHeartbeats 4000000 in
theorem c40 (p : Option Addr) (zs : List Int) (c : Nat) (w : World) (hn : zs.length ≤ maxLen) (RA : Hid (SlI w p zs)) :
    Calls Try.prog 78 #[.agg #[.slice p zs.length c]] w (Ret (.int .i64 (dv zs)) w) := by
  have R1 := SlI.keep ((Below.refl _ _).alloc (Nat.le_refl _) (Obj.cells #[Value.slice p zs.length c] 48)) RA.out
  have R1 := Lib.hid R1
  have C := Lib.hid fun (y : World) (h : SlI y p zs) => c38 p zs c y hn (Lib.hid h)
  by_cases hv : mok zs = true
  · obtain ⟨h1, h3, hl, s0, s1, _⟩ := mok_facts hv
    have HL := Lib.hid hl
    have HE := Lib.hid fun (k : Nat) (hk : k < zs.length) => mok_el hv hk
    have S0 := Lib.hid (show (1 : Int) * sp (zs.drop 0) = sp zs by rw [Int.one_mul]; rfl)
    have S1 := Lib.hid s1
    rw [mV_ok hv] at C
    rw [show dv zs = sp zs from if_pos hv]
    clear hv hn hl s0 s1
    go_enter Try.func78, Try.ntmps78
    go_wp2_with (first | (go_at_call 60; refine (C.out _ R1.out).mono ?_; rintro e w' ⟨rfl, hb⟩; obtain ⟨hx, hB⟩ := boxed hb; have RS := Lib.hid (SlI.keep hB RA.out); clear hb))
    go_loop [3, 4] (fun s i => ∃ (k : Nat) (S : Int), s = .int .i64 S ∧ i = .int .i64 k ∧ k ≤ zs.length ∧ 1 ≤ S ∧ S ≤ 16 ∧ Hid (S * sp (zs.drop k) = sp zs)) (fun _ i => zs.length - (intOf i).toNat)
    case atStart => exact ⟨0, 1, rfl, rfl, by omega, by omega, by omega, S0⟩
    case round =>
      obtain ⟨m, S, rfl, rfl, hm, s0, s1, hS⟩ := hrel
      by_cases hlt2 : m < zs.length
      · obtain ⟨b, o, rfl, hc⟩ := RS.out m hlt2
        obtain ⟨z0, z1⟩ := HE.out m hlt2
        have hmul := mok_mul hlt2 rfl hS.out
        have hpos := sp_pos (any_drop HL.out (m + 1))
        obtain ⟨z, hz⟩ : ∃ z, zs.getD m 0 = z := ⟨_, rfl⟩
        rw [hz] at hc z0 z1 hmul
        obtain ⟨T, hT⟩ : ∃ T, S * z = T := ⟨_, rfl⟩
        rw [hT] at hmul
        have t0 : 1 ≤ T := by rw [← hT]; exact Int.mul_pos (by omega) (by omega)
        have t1 : T ≤ 16 := by
          have := Int.mul_le_mul_of_nonneg_left hpos (by omega : 0 ≤ T)
          have := S1.out
          omega
        have HM := Lib.hid hmul
        clear hz hmul hpos
        go_wp2
        go_round
        case rel => exact ⟨m + 1, T, rfl, by go_num, by omega, by omega, by omega, HM⟩
        case measure => simp [intOf]; omega
      · have e : S = sp zs := by
          have h := hS.out
          rw [List.drop_of_length_le (by omega)] at h
          change S * 1 = sp zs at h
          omega
        have HE2 := Lib.hid e
        clear e
        go_wp2
        go_ret
        exact ⟨ret_int HE2.out, hB⟩
  · have hV := mV_bad hv
    rw [show dv zs = 0 from if_neg hv]
    generalize mV zs = V at C hV
    clear hv hn
    go_enter Try.func78, Try.ntmps78
    go_wp2_with (go_at_call 60; refine (C.out _ R1.out).mono ?_; rintro e w' ⟨rfl, hb⟩; obtain ⟨hx, hB⟩ := boxed hb; clear hb)
    go_ret
    exact ⟨rfl, hB⟩
set_option maxHeartbeats 8000000 in
theorem c50_ok (p : Option Addr) (zs : List Int) (c : Nat) (a0 : Int) (w : World) (RA : Hid (SlI w p zs)) (hm : mok zs = true) (hp : pA zs a0 = true) :
    Calls Try.prog 77 #[.slice p zs.length c, .int .i64 a0] w (PW (pt zs a0) true w) := by
  obtain ⟨hv, a1, a2⟩ := pA_valid hp
  obtain ⟨h6, hl, hP, hS, hD⟩ := valid_of hv
  have C := Lib.hid (c52 p zs c w RA hm)
  clear hm
  obtain ⟨i0, hi, hz0, hz1, hz2⟩ := info_parts info3
  have HD := Lib.hid hD
  have HL := Lib.hid hl
  have hle : a0 ≤ 4095 := by omega
  clear hD hl hv hP hp
  generalize hQ : sp zs = P at C a2 hS
  clear hQ
  have k1 : decide (a0 < 0) = false := by simp <;> omega
  have k2 : decide (P ≤ a0) = false := by simp <;> omega
  obtain ⟨n, hn⟩ : ∃ n, zs.length = n := ⟨_, rfl⟩
  have HN := Lib.hid hn
  rw [hn] at C h6 ⊢
  clear hn
  go_enter Try.func77, Try.ntmps77
  go_wp2_with (first | (go_at_call 80; refine (C.out).mono ?_; rintro e w' ⟨rfl, rfl⟩) | (refine wpList_make_full _ rfl _ _ 34 rfl w.heap.size 3 i0 (.int .i64 0) 1 Try.underlying34 hi hz0 hz1 .i64 .i64 _ _ n rfl rfl rfl rfl (by rw [hz2]; omega) (by unfold maxLen; omega) (Nat.le_refl _) ?_; intro w1 hown hg; have hB := below_own (Nat.le_refl _) hg; have hs := hg.size; clear hg hi hz0 hz1 hz2 i0))
  have hown2 : Hid (w1.ownsRow w.heap.size 3 1 (.slice (some ⟨w.heap.size, 0, none⟩) n n) n ((List.replicate n (0 : Int)).map (Value.int .i64))) := Lib.hid (by
    have h := hown
    rw [show (Value.int IntKind.i64 0).cells = #[.int .i64 0] from rfl, toList_madeCells_one, Nat.mul_one] at h
    rw [List.map_replicate]
    exact h)
  clear hown k1 k2
  go_loopw [1, 7] (fun s i wr => ∃ (m : Nat) (S : Int) (xs : List Int), s = .int .i64 S ∧ i = .int .i64 ((m : Int) - 1) ∧ m ≤ n ∧ Hid (S = a0 / sp (zs.drop m)) ∧ 0 ≤ S ∧ S ≤ 4095 ∧ xs.length = n ∧ Hid (∀ j, m ≤ j → j < n → xs.getD j 0 = (pt zs a0).getD j 0) ∧ Below w.heap.size w wr ∧ w.heap.size < wr.heap.size ∧
    Hid (wr.ownsRow w.heap.size 3 1 (.slice (some ⟨w.heap.size, 0, none⟩) n n) n (xs.map (Value.int .i64)))) (fun _ i _ => (intOf i + 1).toNat)
  case atStart =>
    have hlt : w.heap.size < w1.heap.size := (hown2.out.lt w.heap.size rfl).2
    exact ⟨n, a0, _, rfl, rfl, Nat.le_refl _, Lib.hid (by rw [List.drop_of_length_le (by rw [HN.out]; exact Nat.le_refl _)]; exact (Int.ediv_one _).symm), by omega, by omega, by simp, Lib.hid fun j h1 h2 => by omega, hB, hlt, hown2⟩
  case round =>
    obtain ⟨m, S, xs, rfl, rfl, hm, hS, s0, s1, hx, hX, KB, lt, hO⟩ := hrel
    clear hown2 hB hs
    cases m with
    | zero =>
      have e : xs = pt zs a0 := by
        refine List.ext_getElem (by rw [pt_length, hx, HN.out]) fun j h1 h2 => ?_
        have h := hX.out j (by omega) (by omega)
        rw [getD_at h1, getD_at h2] at h
        exact h
      have HE := Lib.hid e
      clear e
      go_wp2
      refine bodyPost_ret (v := .tuple #[.slice (some ⟨w.heap.size, 0, none⟩) n n, .bool true]) (by simp [results, Try.results77, go_sem]) rfl ⟨_, rfl, KB, ?_⟩
      rw [← HE.out, show xs.length = n from hx]
      exact hO.out
    | succ m =>
      rw [show ((m + 1 : Nat) : Int) - 1 = (m : Int) by omega]
      obtain ⟨b, o, rfl, hc⟩ := RA.out m (by rw [HN.out]; omega)
      have hb : b < w.heap.size := by have := World.block_lt_of_cell? w _ hc; simpa using this
      have hc := Rg.keep' KB hb hc
      have z1 := pos_of HL.out (k := m) (by rw [HN.out]; omega)
      have hd := drop_cons (zs := zs) (k := m) (by rw [HN.out]; omega)
      have hpt := pt_get (zs := zs) (a := a0) (j := m) (by rw [HN.out]; omega)
      obtain ⟨z, hz⟩ : ∃ z, zs.getD m 0 = z := ⟨_, rfl⟩
      rw [hz] at hc z1 hd hpt
      rw [← hS.out] at hpt
      have hT0 : 0 ≤ S / z := Int.ediv_nonneg s0 (by omega)
      have hT1 : S / z ≤ S := Int.ediv_le_self z s0
      have hR0 : 0 ≤ S % z := Int.emod_nonneg S (by omega)
      have hsp : S / z = a0 / sp (zs.drop m) := by rw [hd, hS.out]; exact pt_step (HD.out (m + 1)).1
      obtain ⟨r, hr⟩ : ∃ r, S % z = r := ⟨_, rfl⟩
      obtain ⟨T, hT⟩ : ∃ T, S / z = T := ⟨_, rfl⟩
      rw [hr] at hpt hR0
      rw [hT] at hT0 hT1 hsp
      have oc := cells_of hO.out (j := m) (by omega) hx
      have of := hO.out.frozenAt m
      have oS := Lib.hid (hO.out.stored m (.int .i64 r)).1
      have ne : ¬ w.heap.size = b := by omega
      have ne2 : ¬ b = w.heap.size := by omega
      have hc2 : (wr.setCell ⟨w.heap.size, m, none⟩ (.int .i64 r)).cell? ⟨b, o + m, none⟩ = some (.int .i64 z) := by rw [World.cell?_setCell_far _ _ _ _ ne]; exact hc
      have HSP := Lib.hid hsp
      have HPT := Lib.hid hpt
      have mlt : m < n := by omega
      have mi : (0 : Int) ≤ m := by omega
      have mi2 : (m : Int) < n := by omega
      have zz : (z == 0) = false := by simp <;> omega
      clear hz hd hsp hm hpt
      go_wp2
      go_roundw
      case rel =>
        refine ⟨m, T, xs.set m r, by first | rfl | rw [hT], rfl, by omega, HSP, by omega, by omega, by simp [hx], Lib.hid fun j h1 h2 => ?_, Below.setCell KB (Nat.le_refl _) _, by simpa using lt, Lib.hid (by rw [List.map_set]; exact oS.out)⟩
        by_cases hj : j = m
        · subst hj
          rw [getD_at (by simp [hx]; omega), List.getElem_set_self]
          exact HPT.out.symm
        · rw [getD_at (by simp [hx]; omega), List.getElem_set_ne (by omega), ← getD_at (by omega)]
          exact hX.out j (by omega) h2
      case measure => simp [intOf]
set_option maxHeartbeats 4000000 in
theorem c50_bad (p : Option Addr) (zs : List Int) (c : Nat) (a0 : Int) (w : World) (hn : zs.length ≤ maxLen) (RA : Hid (SlI w p zs)) (hm : mok zs = true) (hp : pA zs a0 = false) :
    Calls Try.prog 77 #[.slice p zs.length c, .int .i64 a0] w (PW [] false w) := by
  have C := Lib.hid (c52 p zs c w RA hm)
  unfold pA at hp
  have hp := of_decide_eq_false hp
  rw [sz_ok (mok_facts hm).2.2.2.2.2] at hp
  clear hm
  generalize hQ : sp zs = P at C hp
  clear hQ
  by_cases h0 : a0 < 0
  · have k1 : decide (a0 < 0) = true := by simpa using h0
    clear hp
    go_enter Try.func77, Try.ntmps77
    go_wp2
    refine bodyPost_ret (v := .tuple #[.slice none 0 0, .bool false]) (by simp [results, Try.results77, go_sem]) rfl ⟨_, rfl, Below.refl _ _, World.ownsRow_nil _ _ _ _⟩
  · have k1 : decide (a0 < 0) = false := by simpa using h0
    have k2 : decide (P ≤ a0) = true := by simp <;> omega
    clear hp
    go_enter Try.func77, Try.ntmps77
    go_wp2_with (go_at_call 80; refine (C.out).mono ?_; rintro e w' ⟨rfl, rfl⟩)
    refine bodyPost_ret (v := .tuple #[.slice none 0 0, .bool false]) (by simp [results, Try.results77, go_sem]) rfl ⟨_, rfl, Below.refl _ _, World.ownsRow_nil _ _ _ _⟩
theorem c50 (p : Option Addr) (zs : List Int) (c : Nat) (a0 : Int) (w : World) (hn : zs.length ≤ maxLen) (RA : Hid (SlI w p zs)) (hm : mok zs = true) :
    Calls Try.prog 77 #[.slice p zs.length c, .int .i64 a0] w (PW (pL zs a0) (pA zs a0) w) := by
  unfold pL
  by_cases h : pA zs a0 = true
  · rw [if_pos h, h]; exact c50_ok p zs c a0 w RA hm h
  · rw [if_neg h, show pA zs a0 = false by simpa using h]; exact c50_bad p zs c a0 w hn RA hm (by simpa using h)
def cL (zs : List Int) (a : Int) : List Int := if mok zs = true then pL zs a else []
def cB (zs : List Int) (a : Int) : Bool := if mok zs = true then pA zs a else false
theorem PW.of {l : List Int} {t : Bool} {w u : World} {e : Ending} {w' : World} (hB : Below w.heap.size w u) (h : PW l t u e w') : PW l t w e w' := by
  obtain ⟨v, he, hb, ho⟩ := h
  exact ⟨v, he, hB.trans (hb.mono hB.size), ho.mono hB.size⟩
set_option maxHeartbeats 4000000 in
theorem c33 (p : Option Addr) (zs : List Int) (c : Nat) (a0 : Int) (w : World) (hn : zs.length ≤ maxLen) (RA : Hid (SlI w p zs)) :
    Calls Try.prog 64 #[.agg #[.slice p zs.length c], .int .i64 a0] w (PW (cL zs a0) (cB zs a0) w) := by
  have R1 := SlI.keep ((Below.refl _ _).alloc (Nat.le_refl _) (Obj.cells #[Value.slice p zs.length c] 48)) RA.out
  have R1 := Lib.hid R1
  have C := Lib.hid fun (y : World) (h : SlI y p zs) => c37 p zs c y hn (Lib.hid h)
  by_cases hv : mok zs = true
  · have D := Lib.hid fun (y : World) (h : SlI y p zs) => c50 p zs c a0 y hn (Lib.hid h) hv
    rw [mV_ok hv] at C
    rw [show cL zs a0 = pL zs a0 from if_pos hv, show cB zs a0 = pA zs a0 from if_pos hv]
    generalize pL zs a0 = L at D
    generalize pA zs a0 = B at D
    clear hv hn
    go_enter Try.func64, Try.ntmps64
    go_wp2_with (first | (go_at_call 57; refine (C.out _ R1.out).mono ?_; rintro e w' ⟨rfl, hb⟩; obtain ⟨hx, hB⟩ := boxed hb; have RS := Lib.hid (SlI.keep hB RA.out); clear hb) | (go_at_call 77; refine (D.out _ RS.out).mono ?_; rintro e w' hP; obtain ⟨v, rfl, hb2, ho⟩ := hP; have HB2 := hb2; have HO := Lib.hid ho; clear hb2 ho))
    exact bodyPost_ret (v := .tuple #[v, .bool B]) (by simp [results, Try.results64, go_sem]) rfl ⟨v, rfl, hB.trans (HB2.mono hB.size), HO.out.mono hB.size⟩
  · have hV := mV_bad hv
    rw [show cL zs a0 = [] from if_neg hv, show cB zs a0 = false from if_neg hv]
    generalize mV zs = V at C hV
    clear hv hn
    go_enter Try.func64, Try.ntmps64
    go_wp2_with (go_at_call 57; refine (C.out _ R1.out).mono ?_; rintro e w' ⟨rfl, hb⟩; obtain ⟨hx, hB⟩ := boxed hb; clear hb)
    exact bodyPost_ret (v := .tuple #[.slice none 0 0, .bool false]) (by simp [results, Try.results64, go_sem]) rfl ⟨_, rfl, hB, World.ownsRow_nil _ _ _ _⟩
theorem cB_valid {zs : List Int} {a : Int} (h : cB zs a = true) : mok zs = true ∧ 0 ≤ a ∧ a < sp zs := by
  unfold cB at h
  by_cases hv : mok zs = true
  · rw [if_pos hv] at h; exact ⟨hv, (pA_valid h).2⟩
  · rw [if_neg hv] at h; cases h
theorem cB_no {zs : List Int} {a : Int} (h : cB zs a = false) : ¬ (0 ≤ a ∧ a < dv zs) := by
  unfold cB at h
  unfold dv
  by_cases hv : mok zs = true
  · rw [if_pos hv] at h ⊢
    unfold pA at h
    rw [sz_ok (mok_facts hv).2.2.2.2.2] at h
    exact of_decide_eq_false h
  · rw [if_neg hv]; omega
set_option maxHeartbeats 4000000 in
theorem c34_bad (p : Option Addr) (zs : List Int) (c : Nat) (a0 : Int) (w : World) (hn : zs.length ≤ maxLen) (RA : Hid (SlI w p zs)) (hp : cB zs a0 = false) :
    Calls Try.prog 65 #[.agg #[.slice p zs.length c], .int .i64 a0] w (PW [] false w) := by
  have R1 := SlI.keep ((Below.refl _ _).alloc (Nat.le_refl _) (Obj.cells #[Value.slice p zs.length c] 48)) RA.out
  have R1 := Lib.hid R1
  have C := Lib.hid fun (y : World) (h : SlI y p zs) => c40 p zs c y hn (Lib.hid h)
  have hp := cB_no hp
  generalize hQ : dv zs = P at C hp
  clear hQ
  by_cases h0 : a0 < 0
  · have k1 : decide (a0 < 0) = true := by simpa using h0
    clear hp
    go_enter Try.func65, Try.ntmps65
    go_wp2
    exact bodyPost_ret (v := .tuple #[.slice none 0 0, .bool false]) (by simp [results, Try.results65, go_sem]) rfl ⟨_, rfl, (Below.refl _ _).alloc (Nat.le_refl _) _, World.ownsRow_nil _ _ _ _⟩
  · have k1 : decide (a0 < 0) = false := by simpa using h0
    have k2 : decide (P ≤ a0) = true := decide_eq_true (by omega)
    clear hp
    go_enter Try.func65, Try.ntmps65
    go_wp2_with (go_at_call 78; refine (C.out _ R1.out).mono ?_; rintro e w' ⟨rfl, hb⟩; obtain ⟨hx, hB⟩ := boxed hb; clear hb)
    exact bodyPost_ret (v := .tuple #[.slice none 0 0, .bool false]) (by simp [results, Try.results65, go_sem]) rfl ⟨_, rfl, hB, World.ownsRow_nil _ _ _ _⟩
set_option maxHeartbeats 8000000 in
theorem c34_ok (p : Option Addr) (zs : List Int) (c : Nat) (a0 : Int) (w : World) (RA : Hid (SlI w p zs)) (hp : cB zs a0 = true) :
    Calls Try.prog 65 #[.agg #[.slice p zs.length c], .int .i64 a0] w (PW (pt zs a0) true w) := by
  obtain ⟨hm, a1, a2⟩ := cB_valid hp
  have hv := (mok_facts hm).2.2.2.2.2
  obtain ⟨h6, hl, hP, hS, hD⟩ := valid_of hv
  have R1 := SlI.keep ((Below.refl _ _).alloc (Nat.le_refl _) (Obj.cells #[Value.slice p zs.length c] 48)) RA.out
  have R1 := Lib.hid R1
  have C := Lib.hid fun (y : World) (h : SlI y p zs) => c40 p zs c y (by unfold maxLen; omega) (Lib.hid h)
  rw [show dv zs = sp zs from if_pos hm] at C
  clear hm
  obtain ⟨i0, hi, hz0, hz1, hz2⟩ := info_parts info3
  have HD := Lib.hid hD
  have HL := Lib.hid hl
  have hle : a0 ≤ 4095 := by omega
  clear hD hl hv hP hp
  generalize hQ : sp zs = P at C a2 hS
  clear hQ
  have k1 : decide (a0 < 0) = false := by simp <;> omega
  have k2 : decide (P ≤ a0) = false := by simp <;> omega
  obtain ⟨n, hn⟩ : ∃ n, zs.length = n := ⟨_, rfl⟩
  have HN := Lib.hid hn
  rw [hn] at C h6 R1 ⊢
  clear hn
  go_enter Try.func65, Try.ntmps65
  go_wp2_with (first | (go_at_call 78; refine (C.out _ R1.out).mono ?_; rintro e w' ⟨rfl, hb⟩; obtain ⟨hx, hB0⟩ := boxed hb; clear hb) | (refine wpList_make_full _ rfl _ _ 34 rfl w'.heap.size 3 i0 (.int .i64 0) 1 Try.underlying34 hi hz0 hz1 .i64 .i64 _ _ n rfl rfl rfl rfl (by rw [hz2]; omega) (by unfold maxLen; omega) (Nat.le_refl _) ?_; intro w1 hown hg; have hB := below_own (Nat.le_refl _) hg; have hs := hg.size; have hltb : w.heap.size < w'.heap.size := (by have := World.block_lt_of_cell? w' _ hx; simpa using this); clear hg hi hz0 hz1 hz2 i0; have hx1 := Rg.keep' hB (by have := World.block_lt_of_cell? w' _ hx; simpa using this) hx; clear hx))
  have hown2 : Hid (w1.ownsRow w'.heap.size 3 1 (.slice (some ⟨w'.heap.size, 0, none⟩) n n) n ((List.replicate n (0 : Int)).map (Value.int .i64))) := Lib.hid (by
    have h := hown
    rw [show (Value.int IntKind.i64 0).cells = #[.int .i64 0] from rfl, toList_madeCells_one, Nat.mul_one] at h
    rw [List.map_replicate]
    exact h)
  clear hown k1 k2
  go_loopw [1, 7] (fun s i wr => ∃ (m : Nat) (S : Int) (xs : List Int), s = .int .i64 S ∧ i = .int .i64 ((m : Int) - 1) ∧ m ≤ n ∧ Hid (S = a0 / sp (zs.drop m)) ∧ 0 ≤ S ∧ S ≤ 4095 ∧ xs.length = n ∧ Hid (∀ j, m ≤ j → j < n → xs.getD j 0 = (pt zs a0).getD j 0) ∧ Below w'.heap.size w' wr ∧ wr.cell? ⟨w.heap.size, 0, none⟩ = some (.slice p n c) ∧ w'.heap.size < wr.heap.size ∧
    Hid (wr.ownsRow w'.heap.size 3 1 (.slice (some ⟨w'.heap.size, 0, none⟩) n n) n (xs.map (Value.int .i64)))) (fun _ i _ => (intOf i + 1).toNat)
  case atStart =>
    have hlt : w'.heap.size < w1.heap.size := (hown2.out.lt w'.heap.size rfl).2
    exact ⟨n, a0, _, rfl, rfl, Nat.le_refl _, Lib.hid (by rw [List.drop_of_length_le (by rw [HN.out]; exact Nat.le_refl _)]; exact (Int.ediv_one _).symm), by omega, by omega, by simp, Lib.hid fun j h1 h2 => by omega, hB, hx1, hlt, hown2⟩
  case round =>
    obtain ⟨m, S, xs, rfl, rfl, hm, hS, s0, s1, hx, hX, KB, hbx, lt, hO⟩ := hrel
    clear hown2 hB hs
    cases m with
    | zero =>
      have e : xs = pt zs a0 := by
        refine List.ext_getElem (by rw [pt_length, hx, HN.out]) fun j h1 h2 => ?_
        have h := hX.out j (by omega) (by omega)
        rw [getD_at h1, getD_at h2] at h
        exact h
      have HE := Lib.hid e
      clear e
      go_wp2
      refine bodyPost_ret (v := .tuple #[.slice (some ⟨w'.heap.size, 0, none⟩) n n, .bool true]) (by simp [results, Try.results65, go_sem]) rfl ⟨_, rfl, hB0.trans (KB.mono hB0.size), ?_⟩
      rw [← HE.out, show xs.length = n from hx]
      exact hO.out.mono hB0.size
    | succ m =>
      rw [show ((m + 1 : Nat) : Int) - 1 = (m : Int) by omega]
      obtain ⟨b, o, rfl, hc⟩ := RA.out m (by rw [HN.out]; omega)
      have hb0 : b < w.heap.size := by have := World.block_lt_of_cell? w _ hc; simpa using this
      have hb : b < w'.heap.size := Nat.lt_of_lt_of_le hb0 hB0.size
      have hc := Rg.keep' KB hb (Rg.keep' hB0 hb0 hc)
      have ne3 : ¬ w'.heap.size = w.heap.size := by omega
      have ne4 : ¬ w.heap.size = w'.heap.size := by omega
      have z1 := pos_of HL.out (k := m) (by rw [HN.out]; omega)
      have hd := drop_cons (zs := zs) (k := m) (by rw [HN.out]; omega)
      have hpt := pt_get (zs := zs) (a := a0) (j := m) (by rw [HN.out]; omega)
      obtain ⟨z, hz⟩ : ∃ z, zs.getD m 0 = z := ⟨_, rfl⟩
      rw [hz] at hc z1 hd hpt
      rw [← hS.out] at hpt
      have hT0 : 0 ≤ S / z := Int.ediv_nonneg s0 (by omega)
      have hT1 : S / z ≤ S := Int.ediv_le_self z s0
      have hR0 : 0 ≤ S % z := Int.emod_nonneg S (by omega)
      have hsp : S / z = a0 / sp (zs.drop m) := by rw [hd, hS.out]; exact pt_step (HD.out (m + 1)).1
      obtain ⟨r, hr⟩ : ∃ r, S % z = r := ⟨_, rfl⟩
      obtain ⟨T, hT⟩ : ∃ T, S / z = T := ⟨_, rfl⟩
      rw [hr] at hpt hR0
      rw [hT] at hT0 hT1 hsp
      have oc := cells_of hO.out (j := m) (by omega) hx
      have of := hO.out.frozenAt m
      have oS := Lib.hid (hO.out.stored m (.int .i64 r)).1
      have ne : ¬ w'.heap.size = b := by omega
      have ne2 : ¬ b = w'.heap.size := by omega
      have hc2 : (wr.setCell ⟨w'.heap.size, m, none⟩ (.int .i64 r)).cell? ⟨b, o + m, none⟩ = some (.int .i64 z) := by rw [World.cell?_setCell_far _ _ _ _ ne]; exact hc
      have hbx2 : (wr.setCell ⟨w'.heap.size, m, none⟩ (.int .i64 r)).cell? ⟨w.heap.size, 0, none⟩ = some (.slice (some ⟨b, o, none⟩) n c) := by rw [World.cell?_setCell_far _ _ _ _ ne3]; exact hbx
      have HSP := Lib.hid hsp
      have HPT := Lib.hid hpt
      have mlt : m < n := by omega
      have mi : (0 : Int) ≤ m := by omega
      have mi2 : (m : Int) < n := by omega
      have zz : (z == 0) = false := by simp <;> omega
      clear hz hd hsp hm hpt
      go_wp2
      go_roundw
      case rel =>
        refine ⟨m, T, xs.set m r, by first | rfl | rw [hT], rfl, by omega, HSP, by omega, by omega, by simp [hx], Lib.hid fun j h1 h2 => ?_, Below.setCell KB (Nat.le_refl _) _, hbx2, by simpa using lt, Lib.hid (by rw [List.map_set]; exact oS.out)⟩
        by_cases hj : j = m
        · subst hj
          rw [getD_at (by simp [hx]; omega), List.getElem_set_self]
          exact HPT.out.symm
        · rw [getD_at (by simp [hx]; omega), List.getElem_set_ne (by omega), ← getD_at (by omega)]
          exact hX.out j (by omega) h2
      case measure => simp [intOf]

theorem c34 (p : Option Addr) (zs : List Int) (c : Nat) (a0 : Int) (w : World) (hn : zs.length ≤ maxLen) (RA : Hid (SlI w p zs)) :
    Calls Try.prog 65 #[.agg #[.slice p zs.length c], .int .i64 a0] w (PW (cL zs a0) (cB zs a0) w) := by
  by_cases h : cB zs a0 = true
  · have e : cL zs a0 = pt zs a0 := by
      unfold cL pL
      have hm := (cB_valid h).1
      rw [if_pos hm]
      unfold cB at h
      rw [if_pos hm] at h
      rw [if_pos h]
    rw [e, h]
    exact c34_ok p zs c a0 w RA h
  · have h' : cB zs a0 = false := by simpa using h
    have e : cL zs a0 = [] := by
      unfold cL pL
      by_cases hm : mok zs = true
      · rw [if_pos hm]
        unfold cB at h
        rw [if_pos hm] at h
        rw [if_neg h]
      · rw [if_neg hm]
    rw [e, h']
    exact c34_bad p zs c a0 w hn RA h'
end Go.Proofs.Ytndmpoomdoojpaa.Sh

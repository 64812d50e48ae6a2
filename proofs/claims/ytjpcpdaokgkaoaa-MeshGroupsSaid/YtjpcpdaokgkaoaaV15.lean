/- Slice of package shape. -/
import Derived.Test.YtjpcpdaokgkaoaaV14
namespace Go.Proofs.Ytjpcpdaokgkaoaa.Sh
open Go.ChangeShapes Go.WideShapes Go.ChangeAt Go.RowKit
set_option linter.unusedVariables false

/-- A slice that the call has made, and an error number. -/
def QW (l : List Int) (t : Int) (w : World) (e : Ending) (w' : World) : Prop := ∃ v, e = .returned (.tuple #[v, .int .i64 t]) ∧ Below w.heap.size w w' ∧ w'.ownsRow w.heap.size 3 1 v l.length (l.map (Value.int .i64))
def slE (zs : List Int) (ax fr tt : Int) : Int := if (vE zs != 0) = true then vE zs else if ax < 0 ∨ (zs.length : Int) ≤ ax then 11 else if fr < 0 ∨ tt ≤ fr ∨ zs.getD ax.toNat 0 < tt then 12 else 0
def slL (zs : List Int) (ax fr tt : Int) : List Int := if (vE zs != 0) = true then [] else if ax < 0 ∨ (zs.length : Int) ≤ ax then [] else if fr < 0 ∨ tt ≤ fr ∨ zs.getD ax.toNat 0 < tt then [] else zs.set ax.toNat (tt - fr)
theorem el_le {zs : List Int} (h : vE zs = 0) {k : Nat} (hk : k < zs.length) : zs.getD k 0 ≤ 4096 := by
  obtain ⟨_, hl, _, hS, hD⟩ := valid_of h
  have h1 := (hD k).2
  rw [drop_cons hk] at h1
  change sp (zs.drop (k + 1)) * zs.getD k 0 ≤ 4096 at h1
  have h2 := (hD (k + 1)).1
  have h3 := pos_of hl hk
  have := Int.mul_le_mul_of_nonneg_right h2 (by omega : 0 ≤ zs.getD k 0)
  omega
set_option maxHeartbeats 4000000 in
theorem c29_v (p : Option Addr) (zs : List Int) (c : Nat) (ax fr tt : Int) (w : World) (hn : zs.length ≤ maxLen) (RA : Hid (SlI w p zs)) (hv : (vE zs != 0) = true) :
    Calls Try.prog 29 #[.slice p zs.length c, .int .i64 ax, .int .i64 fr, .int .i64 tt] w (QW [] (vE zs) w) := by
  have C := Lib.hid (c14 p zs c w hn RA)
  generalize vE zs = e at *
  go_enter Try.func29, Try.ntmps29
  go_wp2_with (go_at_call 14; refine (C.out).mono ?_; rintro e w' ⟨rfl, rfl⟩)
  refine bodyPost_ret (v := .tuple #[.slice none 0 0, .int .i64 e]) (by simp [results, Try.results29, go_sem]) rfl ⟨_, rfl, Below.refl _ _, World.ownsRow_nil _ _ _ _⟩
set_option maxHeartbeats 4000000 in
theorem c29_a (p : Option Addr) (zs : List Int) (c : Nat) (ax fr tt : Int) (w : World) (hn : zs.length ≤ maxLen) (RA : Hid (SlI w p zs)) (hv : vE zs = 0) (ha : ax < 0 ∨ (zs.length : Int) ≤ ax) :
    Calls Try.prog 29 #[.slice p zs.length c, .int .i64 ax, .int .i64 fr, .int .i64 tt] w (QW [] 11 w) := by
  have C := Lib.hid (c14 p zs c w hn RA)
  rw [hv] at C
  clear hv
  generalize zs.length = n at *
  by_cases h : ax < 0
  · have k1 : decide (ax < 0) = true := by simpa using h
    clear ha h
    go_enter Try.func29, Try.ntmps29
    go_wp2_with (go_at_call 14; refine (C.out).mono ?_; rintro e w' ⟨rfl, rfl⟩)
    refine bodyPost_ret (v := .tuple #[.slice none 0 0, .int .i64 11]) (by simp [results, Try.results29, go_sem]) rfl ⟨_, rfl, Below.refl _ _, World.ownsRow_nil _ _ _ _⟩
  · have k1 : decide (ax < 0) = false := by simpa using h
    have k2 : decide ((n : Int) ≤ ax) = true := by simp <;> omega
    clear ha h
    go_enter Try.func29, Try.ntmps29
    go_wp2_with (go_at_call 14; refine (C.out).mono ?_; rintro e w' ⟨rfl, rfl⟩)
    refine bodyPost_ret (v := .tuple #[.slice none 0 0, .int .i64 11]) (by simp [results, Try.results29, go_sem]) rfl ⟨_, rfl, Below.refl _ _, World.ownsRow_nil _ _ _ _⟩
set_option maxHeartbeats 4000000 in
theorem c29_b (p : Option Addr) (zs : List Int) (c : Nat) (k : Nat) (fr tt : Int) (w : World) (hn : zs.length ≤ maxLen) (RA : Hid (SlI w p zs)) (hv : vE zs = 0) (hk : k < zs.length) (ha : fr < 0 ∨ tt ≤ fr ∨ zs.getD k 0 < tt) :
    Calls Try.prog 29 #[.slice p zs.length c, .int .i64 (k : Int), .int .i64 fr, .int .i64 tt] w (QW [] 12 w) := by
  have C := Lib.hid (c14 p zs c w hn RA)
  rw [hv] at C
  obtain ⟨h6, _⟩ := valid_of hv
  obtain ⟨b, o, rfl, hc⟩ := RA.out k hk
  generalize zs.getD k 0 = z at *
  clear hv
  have q0 : (0 : Int) ≤ k := by omega
  have q1 : (k : Int) < zs.length := by omega
  have k1 : decide ((k : Int) < 0) = false := by simp <;> omega
  have k2 : decide ((zs.length : Int) ≤ k) = false := by simp <;> omega
  have k3 : decide (zs.length ≤ k) = false := by simp <;> omega
  generalize zs.length = n at *
  by_cases h : fr < 0
  · have m1 : decide (fr < 0) = true := by simpa using h
    clear ha h
    go_enter Try.func29, Try.ntmps29
    go_wp2_with (go_at_call 14; refine (C.out).mono ?_; rintro e w' ⟨rfl, rfl⟩)
    refine bodyPost_ret (v := .tuple #[.slice none 0 0, .int .i64 12]) (by simp [results, Try.results29, go_sem]) rfl ⟨_, rfl, Below.refl _ _, World.ownsRow_nil _ _ _ _⟩
  have m1 : decide (fr < 0) = false := by simpa using h
  by_cases h2 : tt ≤ fr
  · have m2 : decide (tt ≤ fr) = true := by simpa using h2
    clear ha h
    go_enter Try.func29, Try.ntmps29
    go_wp2_with (go_at_call 14; refine (C.out).mono ?_; rintro e w' ⟨rfl, rfl⟩)
    refine bodyPost_ret (v := .tuple #[.slice none 0 0, .int .i64 12]) (by simp [results, Try.results29, go_sem]) rfl ⟨_, rfl, Below.refl _ _, World.ownsRow_nil _ _ _ _⟩
  have m2 : decide (tt ≤ fr) = false := by simpa using h2
  have m3 : decide (z < tt) = true := by simp <;> omega
  clear ha h h2
  go_enter Try.func29, Try.ntmps29
  go_wp2_with (go_at_call 14; refine (C.out).mono ?_; rintro e w' ⟨rfl, rfl⟩)
  refine bodyPost_ret (v := .tuple #[.slice none 0 0, .int .i64 12]) (by simp [results, Try.results29, go_sem]) rfl ⟨_, rfl, Below.refl _ _, World.ownsRow_nil _ _ _ _⟩
set_option maxHeartbeats 4000000 in
theorem c30_v (p : Option Addr) (zs : List Int) (c : Nat) (ax fr tt : Int) (w : World) (hn : zs.length ≤ maxLen) (RA : Hid (SlI w p zs)) (hv : (vE zs != 0) = true) :
    Calls Try.prog 30 #[.slice p zs.length c, .int .i64 ax, .int .i64 fr, .int .i64 tt] w (QW [] (vE zs) w) := by
  have C := Lib.hid (c15 p zs c w hn RA)
  generalize vE zs = e at *
  go_enter Try.func30, Try.ntmps30
  go_wp2_with (go_at_call 15; refine (C.out).mono ?_; rintro e w' ⟨rfl, rfl⟩)
  refine bodyPost_ret (v := .tuple #[.slice none 0 0, .int .i64 e]) (by simp [results, Try.results30, go_sem]) rfl ⟨_, rfl, Below.refl _ _, World.ownsRow_nil _ _ _ _⟩
set_option maxHeartbeats 4000000 in
theorem c30_a (p : Option Addr) (zs : List Int) (c : Nat) (ax fr tt : Int) (w : World) (hn : zs.length ≤ maxLen) (RA : Hid (SlI w p zs)) (hv : vE zs = 0) (ha : ax < 0 ∨ (zs.length : Int) ≤ ax) :
    Calls Try.prog 30 #[.slice p zs.length c, .int .i64 ax, .int .i64 fr, .int .i64 tt] w (QW [] 11 w) := by
  have C := Lib.hid (c15 p zs c w hn RA)
  rw [hv] at C
  clear hv
  generalize zs.length = n at *
  by_cases h : ax < 0
  · have k1 : decide (ax < 0) = true := by simpa using h
    clear ha h
    go_enter Try.func30, Try.ntmps30
    go_wp2_with (go_at_call 15; refine (C.out).mono ?_; rintro e w' ⟨rfl, rfl⟩)
    refine bodyPost_ret (v := .tuple #[.slice none 0 0, .int .i64 11]) (by simp [results, Try.results30, go_sem]) rfl ⟨_, rfl, Below.refl _ _, World.ownsRow_nil _ _ _ _⟩
  · have k1 : decide (ax < 0) = false := by simpa using h
    have k2 : decide ((n : Int) ≤ ax) = true := by simp <;> omega
    clear ha h
    go_enter Try.func30, Try.ntmps30
    go_wp2_with (go_at_call 15; refine (C.out).mono ?_; rintro e w' ⟨rfl, rfl⟩)
    refine bodyPost_ret (v := .tuple #[.slice none 0 0, .int .i64 11]) (by simp [results, Try.results30, go_sem]) rfl ⟨_, rfl, Below.refl _ _, World.ownsRow_nil _ _ _ _⟩
set_option maxHeartbeats 4000000 in
theorem c30_b (p : Option Addr) (zs : List Int) (c : Nat) (k : Nat) (fr tt : Int) (w : World) (hn : zs.length ≤ maxLen) (RA : Hid (SlI w p zs)) (hv : vE zs = 0) (hk : k < zs.length) (ha : fr < 0 ∨ tt ≤ fr ∨ zs.getD k 0 < tt) :
    Calls Try.prog 30 #[.slice p zs.length c, .int .i64 (k : Int), .int .i64 fr, .int .i64 tt] w (QW [] 12 w) := by
  have C := Lib.hid (c15 p zs c w hn RA)
  rw [hv] at C
  obtain ⟨h6, _⟩ := valid_of hv
  obtain ⟨b, o, rfl, hc⟩ := RA.out k hk
  generalize zs.getD k 0 = z at *
  clear hv
  have q0 : (0 : Int) ≤ k := by omega
  have q1 : (k : Int) < zs.length := by omega
  have k1 : decide ((k : Int) < 0) = false := by simp <;> omega
  have k2 : decide ((zs.length : Int) ≤ k) = false := by simp <;> omega
  have k3 : decide (zs.length ≤ k) = false := by simp <;> omega
  generalize zs.length = n at *
  by_cases h : fr < 0
  · have m1 : decide (fr < 0) = true := by simpa using h
    clear ha h
    go_enter Try.func30, Try.ntmps30
    go_wp2_with (go_at_call 15; refine (C.out).mono ?_; rintro e w' ⟨rfl, rfl⟩)
    refine bodyPost_ret (v := .tuple #[.slice none 0 0, .int .i64 12]) (by simp [results, Try.results30, go_sem]) rfl ⟨_, rfl, Below.refl _ _, World.ownsRow_nil _ _ _ _⟩
  have m1 : decide (fr < 0) = false := by simpa using h
  by_cases h2 : tt ≤ fr
  · have m2 : decide (tt ≤ fr) = true := by simpa using h2
    clear ha h
    go_enter Try.func30, Try.ntmps30
    go_wp2_with (go_at_call 15; refine (C.out).mono ?_; rintro e w' ⟨rfl, rfl⟩)
    refine bodyPost_ret (v := .tuple #[.slice none 0 0, .int .i64 12]) (by simp [results, Try.results30, go_sem]) rfl ⟨_, rfl, Below.refl _ _, World.ownsRow_nil _ _ _ _⟩
  have m2 : decide (tt ≤ fr) = false := by simpa using h2
  have m3 : decide (z < tt) = true := by simp <;> omega
  clear ha h h2
  go_enter Try.func30, Try.ntmps30
  go_wp2_with (go_at_call 15; refine (C.out).mono ?_; rintro e w' ⟨rfl, rfl⟩)
  refine bodyPost_ret (v := .tuple #[.slice none 0 0, .int .i64 12]) (by simp [results, Try.results30, go_sem]) rfl ⟨_, rfl, Below.refl _ _, World.ownsRow_nil _ _ _ _⟩
end Go.Proofs.Ytjpcpdaokgkaoaa.Sh

/- The statement on the round trip: its walk. -/
import Derived.Test.YtjpcpdaokgkaoaaM16
namespace Go.Proofs.Ytjpcpdaokgkaoaa.Sh
open Go.ChangeShapes Go.WideShapes Go.ChangeAt Go.RowKit
set_option linter.unusedVariables false

/-- The points of a mesh ascend. -/
def lx (P Q : List Int) (n : Nat) : Bool := (List.range n).any fun t => (List.range t).all (fun j => P.getD j 0 == Q.getD j 0) && decide (P.getD t 0 < Q.getD t 0)
def mc2 (zs : List Int) : Bool := !mok zs || (List.range (sp zs).toNat).all fun d => d == 0 || lx (pt zs ((d - 1 : Nat) : Int)) (pt zs (d : Int)) zs.length
theorem mc2_all : ms.all mc2 = true := by decide +kernel
theorem lx_of {zs : List Int} {k : Nat} (h : mok zs = true) (hk : ((k + 1 : Nat) : Int) < sp zs) : ∃ t, t < zs.length ∧ (∀ j, j < t → (pt zs (k : Int)).getD j 0 = (pt zs ((k + 1 : Nat) : Int)).getD j 0) ∧ (pt zs (k : Int)).getD t 0 < (pt zs ((k + 1 : Nat) : Int)).getD t 0 := by
  have hc := List.all_eq_true.1 mc2_all zs (ms_mem h)
  unfold mc2 at hc
  rw [h, Bool.not_true, Bool.false_or] at hc
  have h1 := List.all_eq_true.1 hc (k + 1) (List.mem_range.2 (by omega))
  rw [show (k + 1 == 0) = false from rfl, Bool.false_or] at h1
  obtain ⟨t, ht, h2⟩ := List.any_eq_true.1 h1
  rw [Bool.and_eq_true] at h2
  refine ⟨t, List.mem_range.1 ht, fun j hj => ?_, of_decide_eq_true h2.2⟩
  exact beq_iff_eq.1 (List.all_eq_true.1 h2.1 j (List.mem_range.2 hj))
theorem dA_pt {zs : List Int} {a : Int} (h : mok zs = true) (h0 : 0 ≤ a) (h1 : a < sp zs) : dA zs (pt zs a) = some a := by
  unfold dA
  rw [if_pos h]
  exact of_pt (mok_facts h).2.2.2.2.2 h0 h1
theorem c_pt {zs : List Int} {e : Int} (hm : mok zs = true) (e0 : 0 ≤ e) (e1 : e < sp zs) : cB zs e = true ∧ cL zs e = pt zs e := by
  have hA : pA zs e = true := by
    unfold pA
    rw [sz_ok (mok_facts hm).2.2.2.2.2]
    exact decide_eq_true ⟨e0, e1⟩
  unfold cB cL pL
  rw [if_pos hm, if_pos hm, if_pos hA]
  exact ⟨hA, rfl⟩
/-- The point before. -/
def bf (zs : List Int) : Nat → List Int
  | 0 => []
  | k + 1 => pt zs (k : Int)
set_option maxHeartbeats 4000000 in
theorem law11_out (p : Option Addr) (zs : List Int) (c : Nat) (w : World) (hn : zs.length ≤ maxLen) (RA : Hid (SlI w p zs)) (h : ¬ mok zs = true) :
    Calls Try.prog 11 #[.agg #[.slice p zs.length c]] w (Ret (.bool true) w) := by
  have EX := Lib.hid ex51
  have C := Lib.hid fun (y : World) (h : Below w.heap.size w y) => c37 p zs c y hn (Lib.hid (SlI.keep h RA.out))
  have hV := mV_bad h
  generalize mV zs = V at C hV
  unfold maxLen at hn
  clear h
  have K0 := KW.mk (.slice p zs.length c) 41 w
  by_cases h1 : 20 < zs.length
  · have l1 : decide ((20 : Int) < zs.length) = true := decide_eq_true (by omega)
    have l2 : decide (20 < zs.length) = true := decide_eq_true (by omega)
    go_enter Try.func11, Try.ntmps11
    go_wp2_with (go_at_call 32; refine (EX.out _).mono ?_; rintro e w1 ⟨rfl, hb⟩)
    go_ret
    exact ⟨rfl, (K0.keep hb).1⟩
  · have l1 : decide ((20 : Int) < zs.length) = false := decide_eq_false (by omega)
    have l2 : decide (20 < zs.length) = false := decide_eq_false (by omega)
    go_enter Try.func11, Try.ntmps11
    go_wp2_with fail
    refine (C.out _ K0.1).mono ?_
    rintro e w1 ⟨rfl, hb⟩
    have K1 := K0.keep hb
    clear hb
    go_wp2_with (go_at_call 32; refine (EX.out _).mono ?_; rintro e w2 ⟨rfl, hb⟩)
    go_ret
    exact ⟨rfl, (K1.keep hb).1⟩
set_option maxRecDepth 100000 in
set_option maxHeartbeats 16000000 in
theorem law11_ok (p : Option Addr) (zs : List Int) (c : Nat) (w : World) (RA : Hid (SlI w p zs)) (hm : mok zs = true) :
    Calls Try.prog 11 #[.agg #[.slice p zs.length c]] w (Ret (.bool true) w) := by
  have EX := Lib.hid ex51
  obtain ⟨h1, h3, _, s0, s1, hv⟩ := mok_facts hm
  have hn : zs.length ≤ maxLen := by unfold maxLen; omega
  have l1 : decide ((20 : Int) < zs.length) = false := decide_eq_false (by omega)
  have l2 : decide (20 < zs.length) = false := decide_eq_false (by omega)
  have C := Lib.hid fun (y : World) (h : Below w.heap.size w y) => c37 p zs c y hn (Lib.hid (SlI.keep h RA.out))
  rw [mV_ok hm] at C
  have D := Lib.hid fun (y : World) (h : Below w.heap.size w y) => c39 p zs c y hn (Lib.hid (SlI.keep h RA.out))
  rw [show dv zs = sp zs from if_pos hm] at D
  have F : Hid (∀ (y : World) (k : Nat), (k : Int) < sp zs → Below w.heap.size w y → Calls Try.prog 33 #[.agg #[.slice p zs.length c], .int .i64 (k : Int)] y (PW (pt zs (k : Int)) true y)) := Lib.hid fun y k hk h => by
    have := c33 p zs c (k : Int) y hn (Lib.hid (SlI.keep h RA.out))
    rw [(c_pt hm (by omega) hk).1, (c_pt hm (by omega) hk).2] at this
    exact this
  have G : Hid (∀ (y : World) (k : Nat) (q : Option Addr) (d : Nat), (k : Int) < sp zs → Below w.heap.size w y → SlI y q (pt zs (k : Int)) → Calls Try.prog 35 #[.agg #[.slice p zs.length c], .slice q zs.length d] y fun e w' => e = .returned (.tuple #[.int .i64 (k : Int), .bool true]) ∧ Below y.heap.size y w') := Lib.hid fun y k q d hk h hS => by
    have := c35 p q zs (pt zs (k : Int)) c d y hn (by rw [pt_length]; exact hn) (Lib.hid (SlI.keep h RA.out)) (Lib.hid hS)
    rw [dA_pt hm (by omega) hk, pt_length] at this
    exact this
  have LX : Hid (∀ k : Nat, ((k + 1 : Nat) : Int) < sp zs → ∃ t, t < zs.length ∧ (∀ j, j < t → (bf zs (k + 1)).getD j 0 = (pt zs ((k + 1 : Nat) : Int)).getD j 0) ∧ (bf zs (k + 1)).getD t 0 < (pt zs ((k + 1 : Nat) : Int)).getD t 0) := Lib.hid fun k hk => lx_of hm hk
  have PT := Lib.hid (fun k : Nat => pt_length zs (k : Int))
  obtain ⟨Z, hZ⟩ : ∃ Z, sp zs = Z := ⟨_, rfl⟩
  rw [hZ] at D F G LX s0 s1
  obtain ⟨n, hnn⟩ : ∃ n, zs.length = n := ⟨_, rfl⟩
  rw [hnn] at C D F G LX PT h1 h3 l1 l2 ⊢
  clear hnn hZ hm hv hn
  have K0 := KW.mk (.slice p n c) 41 w
  go_enter Try.func11, Try.ntmps11
  go_wp2_with fail
  refine (C.out _ K0.1).mono ?_
  rintro e w1 ⟨rfl, hb⟩
  have K1 := K0.keep hb
  clear hb K0 C
  go_wp2_with fail
  go_loopw [3, 4] (fun v i wr => ∃ (k : Nat) (q : Option Addr) (cc : Nat), v = .slice q (bf zs k).length cc ∧ i = .int .i64 k ∧ (k : Int) ≤ Z ∧ KW (.slice p n c) w wr ∧ Hid (SlI wr q (bf zs k))) (fun _ i _ => (Z - intOf i).toNat)
  case atStart => exact ⟨0, none, 0, rfl, rfl, by omega, K1, Lib.hid fun i hi => by simp [bf] at hi⟩
  case round =>
    obtain ⟨k, q, cc, rfl, rfl, hk, KK, hS⟩ := hrel
    clear K1
    have kz : (0 : Int) ≤ k := by omega
    have hx := KK.2.2
    go_wp2_with fail
    refine (D.out _ KK.1).mono ?_
    rintro e w2 ⟨rfl, hb⟩
    have K2 := KK.keep hb
    have S2 := Lib.hid (SlI.keep hb hS.out)
    have hx2 := K2.2.2
    clear hb hx KK hS
    by_cases hlt : (k : Int) < Z
    · go_wp2_with fail
      refine (F.out _ k hlt K2.1).mono ?_
      rintro e w3 ⟨v3, rfl, hb, ho⟩
      rw [PT.out] at ho
      obtain ⟨q3, d3, hv3, _, _, S3⟩ := own_SlI (l := pt zs (k : Int)) (by rw [PT.out]; exact ho)
      rw [PT.out] at hv3
      subst hv3
      have K3 := K2.keep hb
      have T3 := Lib.hid (SlI.keep hb S2.out)
      have hx3 := K3.2.2
      clear hb ho hx2 K2 S2
      go_wp2_with fail
      refine (G.out _ k q3 d3 hlt K3.1 S3.out).mono ?_
      rintro e w4 ⟨rfl, hb⟩
      have K4 := K3.keep hb
      have T4 := Lib.hid (SlI.keep hb T3.out)
      have P4 := Lib.hid (SlI.keep hb S3.out)
      have hx4 := K4.2.2
      clear hb hx3 K3 T3 S3
      go_wp2_with fail
      have HL : Hid ((k = 0 → (bf zs k).length = 0) ∧ (k ≠ 0 → (bf zs k).length = n)) := Lib.hid ⟨fun h => by subst h; rfl, fun h => by
        obtain ⟨m, rfl⟩ : ∃ m, k = m + 1 := ⟨k - 1, by omega⟩
        exact PT.out m⟩
      have HT : Hid (k ≠ 0 → ∃ t, t < n ∧ (∀ j, j < t → (bf zs k).getD j 0 = (pt zs (k : Int)).getD j 0) ∧ (bf zs k).getD t 0 < (pt zs (k : Int)).getD t 0) := Lib.hid fun h => by
        obtain ⟨m, rfl⟩ : ∃ m, k = m + 1 := ⟨k - 1, by omega⟩
        exact LX.out m hlt
      have P4l := Lib.hid (PT.out k)
      obtain ⟨l, hl⟩ : ∃ l, bf zs k = l := ⟨_, rfl⟩
      have HB : Hid (bf zs (k + 1) = pt zs (k : Int)) := Lib.hid rfl
      rw [hl] at T4 HL HT ⊢
      obtain ⟨P, hP⟩ : ∃ P, pt zs (k : Int) = P := ⟨_, rfl⟩
      rw [hP] at P4 P4l HT HB
      obtain ⟨L, hL⟩ : ∃ L, l.length = L := ⟨_, rfl⟩
      rw [hL] at HL ⊢
      have LL := Lib.hid hL
      have hLn : L ≤ n := by
        by_cases h0 : k = 0
        · have := HL.out.1 h0; omega
        · have := HL.out.2 h0; omega
      clear hl hP hL
      go_loopw [9] (fun i wr2 => ∃ (j m : Nat), wr2 = w4.drewN m ∧ i = .int .i64 j ∧ j ≤ L ∧ Hid (∀ e, e < j → l.getD e 0 = P.getD e 0)) (fun i _ => L - (intOf i).toNat)
      case atStart => exact ⟨0, 0, rfl, rfl, by omega, Lib.hid fun e he => by omega⟩
      case round =>
        obtain ⟨j, m, rfl, rfl, hj, hE⟩ := hrel
        have K4m : KW (.slice p n c) w (w4.drewN m) := K4.keep (below_drewN (Below.refl _ _) m)
        have j0 : (0 : Int) ≤ j := by omega
        by_cases hjl : j < L
        · obtain ⟨b, o, rfl, hc⟩ := T4.out j (by rw [LL.out]; exact hjl)
          obtain ⟨b', o', rfl, hc'⟩ := P4.out j (by rw [P4l.out]; omega)
          obtain ⟨x, hxx⟩ : ∃ x, l.getD j 0 = x := ⟨_, rfl⟩
          obtain ⟨y, hyy⟩ : ∃ y, P.getD j 0 = y := ⟨_, rfl⟩
          have HXY := Lib.hid (And.intro hxx hyy)
          rw [hxx] at hc
          rw [hyy] at hc'
          have j1 : (j : Int) < L := by omega
          have j2 : (j : Int) < n := by omega
          have e3 : ((j : Int) == (L : Int)) = false := beq_false_of_ne (by omega)
          have e4 : (j == L) = false := beq_false_of_ne (by omega)
          clear hxx hyy
          by_cases hxy : x = y
          · have e1 : (x == y) = true := beq_iff_eq.2 hxy
            have hE2 : Hid (∀ e, e < j + 1 → l.getD e 0 = P.getD e 0) := Lib.hid fun e he => by
              rcases (by omega : e < j ∨ e = j) with h | rfl
              · exact hE.out e h
              · rw [HXY.out.1, HXY.out.2]; exact hxy
            clear hxy hE
            go_wp2
            go_quiet (fail)
            go_wp2
            go_roundw
            case rel => exact ⟨j + 1, _, by first | rfl | rw [World.drewN_drewN], by go_num, by omega, hE2⟩
            case measure => simp [intOf]; omega
          · have e1 : (x == y) = false := beq_false_of_ne hxy
            have hk0 : k ≠ 0 := fun h => by have := HL.out.1 h; omega
            have hxy2 : x < y := by
              obtain ⟨t, ht, h1, h2⟩ := HT.out hk0
              rcases (by omega : t < j ∨ t = j ∨ j < t) with h | rfl | h
              · have := hE.out t h; omega
              · rw [HXY.out.1, HXY.out.2] at h2; exact h2
              · have := h1 j h; rw [HXY.out.1, HXY.out.2] at this; exact absurd this hxy
            have kp : decide ((0 : Int) < k) = true := decide_eq_true (by omega)
            have kp2 : decide (0 < k) = true := decide_eq_true (by omega)
            have e2 : decide (y < x) = false := decide_eq_false (by omega)
            clear hxy hE hxy2 hk0
            go_wp2
            go_quiet (fail)
            go_wp2
            go_quiet (fail)
            go_wp2
            go_roundw
            case rel => exact ⟨k + 1, some ⟨b', o', none⟩, d3, by rw [HB.out, P4l.out], by go_num, by omega, K4.keep (below_drewN (Below.refl _ _) _), Lib.hid (by rw [HB.out]; exact P4.out)⟩
            case measure => simp [intOf]; omega
        · obtain rfl : j = L := by omega
          have hk0 : k = 0 := by
            by_cases h0 : k = 0
            · exact h0
            · exfalso
              obtain ⟨t, ht, h1, h2⟩ := HT.out h0
              have := HL.out.2 h0
              have := hE.out t (by omega)
              omega
          have kp : decide ((0 : Int) < k) = false := decide_eq_false (by omega)
          have kp2 : decide (0 < k) = false := decide_eq_false (by omega)
          clear hk0 hE
          go_wp2
          go_quiet (fail)
          go_wp2
          go_quiet (fail)
          go_wp2
          go_roundw
          case rel => exact ⟨k + 1, q3, d3, by rw [HB.out, P4l.out], by go_num, by omega, K4.keep (below_drewN (Below.refl _ _) _), Lib.hid (by rw [HB.out]; exact P4.out)⟩
          case measure => simp [intOf]; omega
    · have z0 : decide ((0 : Int) < Z) = true := decide_eq_true (by omega)
      go_wp2_with fail
      refine (D.out _ K2.1).mono ?_
      rintro e w5 ⟨rfl, hb⟩
      have K5 := K2.keep hb
      clear hb K2 hx2 S2
      go_wp2_with (go_at_call 32; refine (EX.out _).mono ?_; rintro e w6 ⟨rfl, hb⟩)
      go_ret
      exact ⟨rfl, (K5.keep hb).1⟩
theorem law11 (p : Option Addr) (zs : List Int) (c : Nat) (w : World) (hc : zs.length ≤ c) (hc' : c ≤ maxLen) (RA : Hid (SlI w p zs)) :
    Calls Try.prog 11 #[.agg #[.slice p zs.length c]] w (Ret (.bool true) w) := by
  by_cases h : mok zs = true
  · exact law11_ok p zs c w RA h
  · exact law11_out p zs c w (Nat.le_trans hc hc') RA h
end Go.Proofs.Ytjpcpdaokgkaoaa.Sh

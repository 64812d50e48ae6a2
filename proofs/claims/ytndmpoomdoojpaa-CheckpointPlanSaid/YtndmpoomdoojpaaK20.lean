/- CheckPlan of the reference. -/
import Derived.Test.YtndmpoomdoojpaaK19
import Derived.Deep.RegionWith
import Derived.Deep.Cut
import Derived.Deep.CutRange
namespace Go.Proofs.Ytndmpoomdoojpaa.Ck
open Go.ChangeShapes Go.WideShapes Go.ChangeAt Go.RowKit
set_option linter.unusedVariables false

theorem B3.ne {w : World} {b base n : Nat} {x y z v : Value} {l : List Value} (h : B3 w b x y z) (ho : w.ownsRow base 3 1 v n l) : v.ownBlock ≠ some b := by
  rcases ho.2 with ⟨rfl, _⟩ | ⟨g, cap, cur, rfl, _, hg, _⟩
  · intro e; cases e
  · intro e
    have : g = b := by simpa [Value.ownBlock] using e
    subst this
    unfold B3 at h
    rw [hg] at h
    have := Option.some.inj h
    injection this with _ h _
    exact absurd h (by decide)
theorem B3.newd {w w' : World} {x y z : Value} (hb : Below ((w.alloc (Obj.cells #[x, y, z] 76)).drew).heap.size ((w.alloc (Obj.cells #[x, y, z] 76)).drew) w') : B3 w' w.heap.size x y z := by
  have h : B3 ((w.alloc (Obj.cells #[x, y, z] 76)).drew) w.heap.size x y z := B3.new (w := w) (x := x) (y := y) (z := z)
  exact h.below hb
theorem nxt_ok {n s : Int} {t : St} {a : Act3} (hv : val n s t a = true) (hn : 0 ≤ n ∧ n ≤ 64) (hnow : 0 ≤ t.now ∧ t.now ≤ 64) (hleft : 0 ≤ t.left ∧ t.left ≤ 64) (hl : t.held.length = 64) (hH : ∀ j, t.held.getD j 0 ≤ 64) :
    (0 ≤ (nxt t a).now ∧ (nxt t a).now ≤ 64) ∧ (0 ≤ (nxt t a).left ∧ (nxt t a).left ≤ 64) ∧ (nxt t a).cost = t.cost + (if a.1 = 1 then 1 else 0) ∧ (nxt t a).held.length = 64 ∧ ∀ j, (nxt t a).held.getD j 0 ≤ 64 := by
  obtain ⟨op, A, z⟩ := a
  by_cases o1 : op = 1
  · subst o1
    rw [val1] at hv
    simp only [Bool.and_eq_true, decide_eq_true_eq] at hv
    obtain ⟨_, h1, h2⟩ := hv
    exact ⟨⟨by show 0 ≤ A; omega, by show A ≤ 64; omega⟩, hleft, rfl, hl, hH⟩
  · by_cases o2 : op = 2
    · subst o2
      exact ⟨hnow, hleft, by show t.cost = t.cost + 0; omega, by show (t.held.set _ _).length = 64; rw [List.length_set]; exact hl, fun j => held_set hH (i := z.toNat) hnow.2 j⟩
    · by_cases o3 : op = 3
      · subst o3
        rw [val3] at hv
        simp only [Bool.and_eq_true, Bool.or_eq_true, decide_eq_true_eq] at hv
        have hA : 0 ≤ A ∧ A ≤ 64 := by
          rcases hv with ⟨_, h1, h2⟩ | ⟨_, h1⟩
          · have := hH z.toNat; omega
          · omega
        exact ⟨hA, hleft, by show t.cost = t.cost + 0; omega, hl, hH⟩
      · by_cases o4 : op = 4
        · subst o4
          rw [val4] at hv
          simp only [Bool.and_eq_true, decide_eq_true_eq] at hv
          obtain ⟨_, h1, _⟩ := hv
          exact ⟨hnow, ⟨by show 0 ≤ t.left - 1; omega, by show t.left - 1 ≤ 64; omega⟩, by show t.cost = t.cost + 0; omega, hl, hH⟩
        · rw [val0 o1 o2 o3 o4] at hv; cases hv
theorem own3 {w : World} {b base n : Nat} {x y z v : Value} {l : List Value} (h : B3 w b x y z) (ho : w.ownsRow base 3 1 v n l) (u0 u1 u2 : Value) : (((w.setCell ⟨b, 0, none⟩ u0).setCell ⟨b, 1, none⟩ u1).setCell ⟨b, 2, none⟩ u2).ownsRow base 3 1 v n l :=
  ownsRow_setCell_other (ownsRow_setCell_other (ownsRow_setCell_other ho (h.ne ho) u0) (h.ne ho) u1) (h.ne ho) u2
/-- What Do answers, in one form. -/
def DV (n : Int) (s : Nat) (t : St) (a : Act3) (base : Nat) (w : World) (e : Ending) (w' : World) : Prop :=
  ∃ (x y : Int) (q : Option Addr) (cap : Nat) (B : Bool), e = .returned (.tuple #[.agg #[.int .i64 x, .int .i64 y, .slice q s cap], .bool B]) ∧ Below w.heap.size w w' ∧ Hid (val n s t a = B ∧ (B = true → x = (nxt t a).now ∧ y = (nxt t a).left ∧ w'.ownsRow base 3 1 (.slice q s cap) s (((nxt t a).held.take s).map (Value.int .i64))))
theorem DW.one {n : Int} {s : Nat} {t : St} {a : Act3} {base : Nat} {q : Option Addr} {cap : Nat} {w : World} {e : Ending} {w' : World} (h : DW n s t a base (.slice q s cap) w e w') : DV n s t a base w e w' := by
  obtain ⟨hB, ⟨hv, rfl⟩ | ⟨hv, v', rfl, hO⟩⟩ := h
  · exact ⟨_, _, _, _, _, rfl, hB, Lib.hid ⟨hv, fun h => by cases h⟩⟩
  · obtain ⟨q', cap', rfl, _⟩ := own_any hO
    exact ⟨_, _, _, _, _, rfl, hB, Lib.hid ⟨hv, fun _ => ⟨rfl, rfl, hO⟩⟩⟩
set_option maxRecDepth 100000 in
set_option maxHeartbeats 16000000 in
theorem rcp (p : Option Addr) (xs : List Act3) (c : Nat) (n s : Int) (w : World) (hn : xs.length ≤ maxLen) (RA : Hid (SlA w p xs)) (RB : Hid (∀ i, i < xs.length → -9223372036854775808 ≤ (xs.getD i (0, 0, 0)).2.1)) :
    Calls Try.prog 29 #[.int .i64 n, .int .i64 s, .slice p xs.length c] w (CW (ck n s xs) w) := by
  have C := Lib.hid (asked n s)
  unfold maxLen at hn
  by_cases h : 0 ≤ n ∧ n ≤ 64 ∧ 0 ≤ s ∧ s ≤ 64
  · rw [show ask n s = 0 from by unfold ask; rw [inr_ok h]; rfl] at C
    by_cases hl : 65536 < xs.length
    · have l1 : decide ((65536 : Int) < xs.length) = true := decide_eq_true (by omega)
      have l2 : decide (65536 < xs.length) = true := decide_eq_true (by omega)
      rw [show ck n s xs = (0, 2) by unfold ck; rw [inr_ok h, if_neg (by decide), if_pos hl]]
      clear h hl
      go_enter Try.func29, Try.ntmps29
      go_wp2_with (go_at_call 27; refine (C.out _).mono ?_; rintro e w' ⟨rfl, rfl⟩)
      exact bodyPost_ret (v := .tuple #[.int .i64 0, .int .i64 2]) (by simp [results, Try.results29, go_sem]) rfl ⟨rfl, Below.refl _ _⟩
    · have l1 : decide ((65536 : Int) < xs.length) = false := decide_eq_false (by omega)
      have l2 : decide (65536 < xs.length) = false := decide_eq_false (by omega)
      obtain ⟨V, hV⟩ : ∃ V, ck n s xs = V := ⟨_, rfl⟩
      rw [hV]
      have HV := Lib.hid (show go n s xs.length ⟨List.replicate 64 (-1), 0, n, 0⟩ 0 xs = V by rw [← hV]; unfold ck; rw [inr_ok h, if_neg (by decide), if_neg hl])
      obtain ⟨n0, n1, s0, s1⟩ := h
      clear hV
      obtain ⟨sn, rfl⟩ : ∃ sn : Nat, s = (sn : Int) := ⟨s.toNat, by omega⟩
      have hs : sn ≤ 64 := by omega
      have CS := Lib.hid (fun u => rstart n sn u hs)
      go_enter Try.func29, Try.ntmps29
      go_wp2_with (first | (go_at_call 27; refine (C.out _).mono ?_; rintro e w' ⟨rfl, rfl⟩) | (go_at_call 51; refine (CS.out _).mono ?_; rintro e w1 ⟨v1, rfl, hB1, hO1⟩; obtain ⟨q1, cap1, rfl, hq1⟩ := own_any hO1; unfold rv))
      have hb1 := hB1.size
      have KB0 : Below w.heap.size w (w1.alloc (Obj.cells #[Value.int IntKind.i64 0, Value.int IntKind.i64 n, Value.slice q1 sn cap1] 76)) := hB1.alloc hb1 _
      have S0 : Hid (B3 (w1.alloc (Obj.cells #[Value.int IntKind.i64 0, Value.int IntKind.i64 n, Value.slice q1 sn cap1] 76)) w1.heap.size (.int .i64 0) (.int .i64 n) (.slice q1 sn cap1)) := Lib.hid B3.new
      have O0 : Hid ((w1.alloc (Obj.cells #[Value.int IntKind.i64 0, Value.int IntKind.i64 n, Value.slice q1 sn cap1] 76)).ownsRow w.heap.size 3 1 (.slice q1 sn cap1) sn (((List.replicate 64 (-1 : Int)).take sn).map (Value.int .i64))) := Lib.hid (by rw [List.take_replicate, Nat.min_eq_left hs]; exact hO1.alloc _)
      generalize w1.alloc (Obj.cells #[Value.int IntKind.i64 0, Value.int IntKind.i64 n, Value.slice q1 sn cap1] 76) = w2 at *
      obtain ⟨b9, h9⟩ : ∃ b9, w1.heap.size = b9 := ⟨_, rfl⟩
      rw [h9] at S0 hb1 ⊢
      clear hO1 hq1 hB1 h9 CS C
      go_loopw [10, 11] (fun a i wr => ∃ (k : Nat) (t : St) (v : Value), a = .int .i64 t.cost ∧ i = .int .i64 k ∧ k ≤ xs.length ∧ Hid (go n sn xs.length t k (xs.drop k) = V) ∧ (0 ≤ t.now ∧ t.now ≤ 64) ∧ (0 ≤ t.left ∧ t.left ≤ 64) ∧ (0 ≤ t.cost ∧ t.cost ≤ k) ∧ t.held.length = 64 ∧ Hid (∀ j, t.held.getD j 0 ≤ 64) ∧ Below w.heap.size w wr ∧ Hid (B3 wr b9 (.int .i64 t.now) (.int .i64 t.left) v) ∧ Hid (wr.ownsRow w.heap.size 3 1 v sn ((t.held.take sn).map (Value.int .i64)))) (fun _ i _ => xs.length - (intOf i).toNat)
      case atStart => exact ⟨0, ⟨List.replicate 64 (-1), 0, n, 0⟩, _, rfl, rfl, by omega, HV, ⟨by simp, by simp⟩, ⟨n0, n1⟩, ⟨by simp, by simp⟩, by simp, Lib.hid heldR, KB0, S0, O0⟩
      case round =>
        clear KB0 S0 O0 HV
        obtain ⟨k, t, v, rfl, rfl, hk, hG, hnow, hleft, hcost, hl64, hH, hB, hS, hO⟩ := hrel
        obtain ⟨q, cap, rfl, hq⟩ := own_any hO.out
        clear hq
        by_cases hlt : k < xs.length
        · obtain ⟨b, o, rfl, c0, c1, c2⟩ := RA.out k hlt
          have hb : b < w.heap.size := by have := World.block_lt_of_cell? w _ c0; simpa using this
          have c0 := (hB.cell (p := ⟨b, o + k * 3, none⟩) hb).trans c0
          have c1 := (hB.cell (p := ⟨b, o + k * 3 + 1, none⟩) hb).trans c1
          have c2 := (hB.cell (p := ⟨b, o + k * 3 + 2, none⟩) hb).trans c2
          have hd := dropA hlt
          have hGb : Hid (val n sn t (xs.getD k (0, 0, 0)) = false → V = ((k : Int), 26)) := Lib.hid fun h => by rw [← hG.out, hd, go_bad h]
          have hGo : Hid (val n sn t (xs.getD k (0, 0, 0)) = true → go n sn xs.length (nxt t (xs.getD k (0, 0, 0))) ((k + 1 : Nat) : Int) (xs.drop (k + 1)) = V) := Lib.hid fun h => by rw [← hG.out, hd, go_ok h]; rfl
          have CD := Lib.hid (fun u (hu : w.heap.size ≤ u.heap.size) hOu => rdo n sn t (xs.getD k (0, 0, 0)) (.slice q sn cap) u w.heap.size hu ⟨n0, n1⟩ hs hnow hleft (RB.out k hlt) hl64 hOu |>.mono fun _ _ h => h.one)
          clear hG hd
          obtain ⟨a, ha⟩ : ∃ a, xs.getD k (0, 0, 0) = a := ⟨_, rfl⟩
          rw [ha] at c0 c1 c2 hGb hGo CD
          clear ha
          obtain ⟨op, A, z⟩ := a
          simp only at c0 c1 c2
          unfold rv at CD
          simp only at CD
          have d0 := hS.out.c0
          have d1 := hS.out.c1
          have d2 := hS.out.c2
          have ii : (0 : Int) ≤ k := by omega
          have i2 : (k : Int) < xs.length := by omega
          have sz := hB.size
          go_wp2
          have hb9 := hS.out.lt
          have bw : b < wr.heap.size := by omega
          have AZ : Below wr.heap.size wr (wr.alloc (Obj.cells #[Value.int IntKind.i64 0, Value.int IntKind.i64 0, Value.slice none 0 0] 76)) := (Below.refl _ _).alloc (Nat.le_refl _) _
          have AD : Below wr.heap.size wr ((wr.alloc (Obj.cells #[Value.int IntKind.i64 0, Value.int IntKind.i64 0, Value.slice none 0 0] 76)).drew) := Below.drew AZ
          have c0a := kp AZ bw c0
          have c1a := kp AZ bw c1
          have c2a := kp AZ bw c2
          have c0d := kp AD bw c0
          have c1d := kp AD bw c1
          have c2d := kp AD bw c2
          have d0a := kp AZ hb9 d0
          have d1a := kp AZ hb9 d1
          have d2a := kp AZ hb9 d2
          have d0d := kp AD hb9 d0
          have d1d := kp AD hb9 d1
          have d2d := kp AD hb9 d2
          go_upto_region 10 with fail
          go_cut [12, 13] from 26 to 53 (fun p12 b13 wx => ∃ (x y : Int) (q' : Option Addr) (cap' : Nat) (B : Bool) (b12 : Nat), p12 = .pointer (some ⟨b12, 0, none⟩) ∧ b13 = .bool B ∧ Below wr.heap.size wr wx ∧ Hid (B3 wx b12 (.int .i64 x) (.int .i64 y) (.slice q' sn cap')) ∧ wr.heap.size ≤ b12 ∧ Hid (val n sn t (op, A, z) = B ∧ (B = true → x = (nxt t (op, A, z)).now ∧ y = (nxt t (op, A, z)).left ∧ wx.ownsRow w.heap.size 3 1 (.slice q' sn cap') sn (((nxt t (op, A, z)).held.take sn).map (Value.int .i64)))))
          case first =>
            go_region_with (go_at_call 52; refine (CD.out _ ?_ ?_).mono ?_; rotate_left 2; (rintro e w' ⟨x, y, q', cap', B, rfl, hBd, hD⟩); (first | (have nB := B3.newd hBd; have e0 := nB.c0; have e1 := nB.c1; have e2 := nB.c2; have g0 := nB.fz 0; have g1 := nB.fz 1; have g2 := nB.fz 2) | skip); rotate_left 1; (first | exact sz | (simp; omega) | skip); (first | exact Lib.hid hO.out | exact Lib.hid (hO.out.alloc _) | skip))
            all_goals (go_wp2_with fail)
            all_goals (go_meet)
            all_goals (first | exact ⟨x, y, q', cap', B, wr.heap.size, rfl, rfl, (((AD.trans (hBd.mono AD.size)).setCell (Nat.le_refl _) _).setCell (Nat.le_refl _) _).setCell (Nat.le_refl _) _, Lib.hid (((nB.s0 _).s1 _).s2 _), Nat.le_refl _, Lib.hid ⟨hD.out.1, fun h => ⟨(hD.out.2 h).1, (hD.out.2 h).2.1, own3 nB (hD.out.2 h).2.2 _ _ _⟩⟩⟩ | exact ⟨x, y, q', cap', B, w'.heap.size, rfl, rfl, ((Below.drew (Below.refl _ _) : Below wr.heap.size wr wr.drew).trans hBd).alloc hBd.size _, Lib.hid B3.new, hBd.size, Lib.hid ⟨hD.out.1, fun h => ⟨(hD.out.2 h).1, (hD.out.2 h).2.1, (hD.out.2 h).2.2.alloc _⟩⟩⟩)
          case rest =>
            obtain ⟨x, y, q', cap', B, b12, rfl, rfl, hBc, hS2, hb12, hD⟩ := hcut
            have KB : Below w.heap.size w wc := hB.trans (hBc.mono sz)
            cases B
            · have HE := Lib.hid (hGb.out hD.out.1)
              clear hGb hGo hD CD
              go_wp2
              exact bodyPost_ret (v := .tuple #[.int .i64 (k : Int), .int .i64 26]) (by simp [results, Try.results29, go_sem]) rfl ⟨by rw [HE.out]; rfl, KB⟩
            · obtain ⟨hv, hD2⟩ := hD.out
              obtain ⟨ex, ey, hO2⟩ := hD2 rfl
              have HG := Lib.hid (hGo.out hv)
              obtain ⟨m1, m2, m3, m4, m5⟩ := nxt_ok hv ⟨n0, n1⟩ hnow hleft hl64 hH.out
              have M5 := Lib.hid m5
              obtain ⟨t', ht'⟩ : ∃ t', nxt t (op, A, z) = t' := ⟨_, rfl⟩
              rw [ht'] at ex ey hO2 HG m1 m2 m3 m4 M5
              subst ex
              subst ey
              have M3 := Lib.hid m3
              clear hv hD2 ht' hGo hGb hD m5 m3 CD
              have S9 := Lib.hid (hS.out.below hBc)
              have c0c := kp hBc bw c0
              have S9c := Lib.hid (((S9.out.s0 (.int .i64 t'.now)).s1 (.int .i64 t'.left)).s2 (.slice q' sn cap'))
              have O9 := Lib.hid (own3 S9.out hO2 (.int .i64 t'.now) (.int .i64 t'.left) (.slice q' sn cap'))
              have K9 : Below w.heap.size w (((wc.setCell ⟨b9, 0, none⟩ (.int .i64 t'.now)).setCell ⟨b9, 1, none⟩ (.int .i64 t'.left)).setCell ⟨b9, 2, none⟩ (.slice q' sn cap')) := ((KB.setCell hb1 _).setCell hb1 _).setCell hb1 _
              have ne9 : ¬ b = b9 := by omega
              have C9 : (((wc.setCell ⟨b9, 0, none⟩ (.int .i64 t'.now)).setCell ⟨b9, 1, none⟩ (.int .i64 t'.left)).setCell ⟨b9, 2, none⟩ (.slice q' sn cap')).cell? ⟨b, o + k * 3, none⟩ = some (.int .i64 op) := by
                rw [World.cell?_setCell_far _ _ _ _ (fun e => ne9 e.symm), World.cell?_setCell_far _ _ _ _ (fun e => ne9 e.symm), World.cell?_setCell_far _ _ _ _ (fun e => ne9 e.symm)]
                exact c0c
              have x0 := hS2.out.c0
              have x1 := hS2.out.c1
              have x2 := hS2.out.c2
              have y0 := S9.out.c0
              have y1 := S9.out.c1
              have y2 := S9.out.c2
              have f0 := S9.out.fz 0
              have f1 := S9.out.fz 1
              have f2 := S9.out.fz 2
              clear hS2 S9 hO2 hBc KB c0 c1 c2 d0 d1 d2 hB hS hO c0a c1a c2a c0d c1d c2d d0a d1a d2a d0d d1d d2d AZ AD
              by_cases o1 : op = 1
              · have e1 : (op == 1) = true := beq_iff_eq.2 o1
                have M := Lib.hid (show t'.cost = t.cost + 1 by rw [M3.out, if_pos o1])
                clear o1 M3
                go_wp2
                go_roundw
                case rel => exact ⟨k + 1, t', _, by rw [M.out], by go_num, by omega, HG, m1, m2, by have := M.out; omega, m4, M5, K9, S9c, O9⟩
                case measure => simp [intOf]; omega
              · have e1 : (op == 1) = false := beq_false_of_ne o1
                have M := Lib.hid (show t'.cost = t.cost by rw [M3.out, if_neg o1]; omega)
                clear o1 M3
                go_wp2
                go_roundw
                case rel => exact ⟨k + 1, t', _, by rw [M.out], by go_num, by omega, HG, m1, m2, by have := M.out; omega, m4, M5, K9, S9c, O9⟩
                case measure => simp [intOf]; omega
        · have hG2 := hG.out
          rw [List.drop_of_length_le (by omega)] at hG2
          have hG3 : (if 0 < t.left then ((xs.length : Int), (6 : Int)) else (t.cost, 0)) = V := hG2
          have y1 := hS.out.c1
          by_cases hl0 : 0 < t.left
          · have d1 : decide (0 < t.left) = true := decide_eq_true hl0
            rw [if_pos hl0] at hG3
            have HE := Lib.hid hG3.symm
            clear hG2 hG3 hG
            go_wp2
            exact bodyPost_ret (v := .tuple #[.int .i64 (xs.length : Int), .int .i64 6]) (by simp [results, Try.results29, go_sem]) rfl ⟨by rw [HE.out]; rfl, hB⟩
          · have d1 : decide (0 < t.left) = false := decide_eq_false hl0
            rw [if_neg hl0] at hG3
            have HE := Lib.hid hG3.symm
            clear hG2 hG3 hG
            go_wp2
            exact bodyPost_ret (v := .tuple #[.int .i64 t.cost, .int .i64 0]) (by simp [results, Try.results29, go_sem]) rfl ⟨by rw [HE.out]; rfl, hB⟩
  · rw [show ask n s = 1 from by unfold ask; rw [inr_no h]; rfl] at C
    rw [show ck n s xs = (0, 1) by unfold ck; rw [inr_no h]; rfl]
    clear h
    go_enter Try.func29, Try.ntmps29
    go_wp2_with (go_at_call 27; refine (C.out _).mono ?_; rintro e w' ⟨rfl, rfl⟩)
    exact bodyPost_ret (v := .tuple #[.int .i64 0, .int .i64 1]) (by simp [results, Try.results29, go_sem]) rfl ⟨rfl, Below.refl _ _⟩
end Go.Proofs.Ytndmpoomdoojpaa.Ck

/- The cache: the statement on types. -/
import Derived.Test.YtlmbjipcdhenlaaC18p
import Derived.Test.YtlmbjipcdhenlaaC16i
namespace Go.Proofs.Ytlmbjipcdhenlaa.Cp
open Go.ChangeShapes Go.WideShapes Go.ChangeAt Go.RowKit
open Go.Proofs.Ytlmbjipcdhenlaa.Ca
set_option linter.unusedVariables false
set_option linter.unusedSimpArgs false
theorem T3.start {w w1 w2 w3 : World} {b d : Nat} {n : Int} (C1 : Cs.CV w1 b w.heap.size n [] 0 0 0) (B1 : Below w.heap.size w w1) (C2 : Cp.CV w2 d w1.heap.size n [] 0 0 0) (B2 : Below w1.heap.size w1 w2) (hb3 : Below w2.heap.size w2 w3) :
    ∃ c, T3 (w3.alloc (Obj.cells #[Value.int .i64 n, Value.int .i64 0, Value.int .i64 0, Value.slice none 0 0] 30)) b d w3.heap.size w.heap.size w1.heap.size n ([].map sf) 0 0 0 ([].map pf) 0 0 0 [] 0 0 (.slice none 0 0) c := by
  have s1 : Cs.CS w1 b w.heap.size n [] 0 0 0 (fun k => k < w1.heap.size ∧ (fun k => if k < w.heap.size then 0 else 1) k ≠ 1) := (base_s C1).mono (fun k hk => by
    by_cases h : k < w.heap.size
    · exact h
    · have h2 := hk.2; simp only [if_neg h] at h2; exact absurd rfl h2)
  have s2 := free_s s1 (fun k hk _ => B2.block k hk) B2.size 2
  have p2 : Cp.CS w2 d w1.heap.size n [] 0 0 0 (fun k => k < w2.heap.size ∧ col (fun k => if k < w.heap.size then 0 else 1) w1.heap.size 2 k ≠ 2) := (base_p C2).mono (fun k hk => by
    by_cases h : k < w1.heap.size
    · exact h
    · have h2 := hk.2; unfold col at h2; simp only [if_neg h] at h2; exact absurd rfl h2)
  have s3 := free_s s2 (fun k hk _ => hb3.block k hk) hb3.size 0
  have p3 := free_p p2 (fun k hk _ => hb3.block k hk) hb3.size 0
  have BA := (Below.refl w3.heap.size w3).alloc (Nat.le_refl _) (Obj.cells #[Value.int .i64 n, Value.int .i64 0, Value.int .i64 0, Value.slice none 0 0] 30)
  have hz1 := B1.size
  have hz2 := B2.size
  have hz3 := hb3.size
  exact ⟨_, free_s s3 (fun k hk _ => BA.block k hk) BA.size 3, free_p p3 (fun k hk _ => BA.block k hk) BA.size 3, ⟨by go_cell, by go_cell, by go_cell, by go_cell, (by first | go_cell | simp), (by first | go_cell | simp), (by first | go_cell | simp), World.ownsRow_nil _ _ _ _, (by simp [Value.ownBlock]), by omega⟩, by unfold col; rw [if_neg (Nat.lt_irrefl _)], fun k hk => by cases hk⟩
open Ci in
set_option maxRecDepth 100000 in
set_option maxHeartbeats 32000000 in
theorem law_types (m : Int) (p : Option Addr) (l : List Ac) (c : Nat) (w : World) (hm : 0 ≤ m ∧ m ≤ 255) (hc : l.length ≤ c) (hcm : c ≤ maxLen) (RA : Hid (SlA w p l)) (hx : ∀ z ∈ l, (-9223372036854775808 ≤ z.1 ∧ z.1 ≤ 9223372036854775807) ∧ z.2.1.size ≤ maxLen ∧ (-9223372036854775808 ≤ z.2.2 ∧ z.2.2 ≤ 9223372036854775807)) :
    Calls Try.prog 4 #[.int .u8 m, .slice p l.length c] w fun e w' => e = .returned (.bool true) ∧ Below w.heap.size w w' := by
  have EX := Lib.hid Cs.alive
  have HX := Lib.hid hx
  have hln : l.length ≤ maxLen := Nat.le_trans hc hcm
  unfold maxLen at hln
  obtain ⟨hm0, hm1⟩ := hm
  have r0 : 0 ≤ m % 20 := by omega
  have r1 : m % 20 ≤ 19 := by omega
  have CN1 := Lib.hid (Cs.newV (1 + m % 20) w (by omega) (by omega))
  have CN2 := Lib.hid fun u => Cp.newV (1 + m % 20) u (by omega) (by omega)
  clear hx hc hcm
  by_cases h60 : 60 < l.length
  · have d60 : (60 : Int) < l.length := by omega
    go_enter Try.func4, Try.ntmps4
    go_wp2_with fail
    refine CN1.out.mono ?_
    rintro e w1 ⟨b, rfl, C1, B1⟩
    go_wp2_with fail
    refine (CN2.out _).mono ?_
    rintro e w2 ⟨d, rfl, C2, B2⟩
    go_wp2_with fail
    refine (EX.out _).mono ?_
    rintro e w3 ⟨rfl, hb⟩
    go_wp2
    go_ret
    exact ⟨rfl, (B1.trans (B2.mono B1.size)).trans (hb.mono (B1.trans (B2.mono B1.size)).size)⟩
  · have d60 : ¬ (60 : Int) < l.length := by omega
    go_enter Try.func4, Try.ntmps4
    go_wp2_with fail
    refine CN1.out.mono ?_
    rintro e w1 ⟨b, rfl, C1, B1⟩
    go_wp2_with fail
    refine (CN2.out _).mono ?_
    rintro e w2 ⟨d, rfl, C2, B2⟩
    obtain ⟨n, hn⟩ : ∃ n, 1 + m % 20 = n := ⟨_, rfl⟩
    rw [hn] at C1 C2
    have n1 : 1 ≤ n := by omega
    have n2 : n ≤ 20 := by omega
    have HN := Lib.hid hn
    have C1 := Lib.hid C1
    have C2 := Lib.hid C2
    clear hn
    go_wp2_with fail
    rw [HN.out]
    clear HN CN1 CN2 r0 r1 hm0 hm1
    refine (rnew1 n w2 (by omega) (by omega)).mono ?_
    rintro e w3 ⟨rfl, hb3⟩
    obtain ⟨c0, T0⟩ := T3.start C1.out B1 C2.out B2 hb3
    have T0 := Lib.hid T0
    have hbp := B1.size
    have K2 := ((B1.trans (B2.mono B1.size)).trans (hb3.mono (B1.trans (B2.mono B1.size)).size))
    have K3 := K2.alloc K2.size (Obj.cells #[Value.int .i64 n, Value.int .i64 0, Value.int .i64 0, Value.slice none 0 0] 30)
    have HBP := Lib.hid hbp
    clear hbp C1 C2 B1 B2 hb3 K2
    go_wp2_with fail
    generalize w3.alloc (Obj.cells #[Value.int .i64 n, Value.int .i64 0, Value.int .i64 0, Value.slice none 0 0] 30) = w4 at *
    generalize w3.heap.size = xb at *
    generalize w1.heap.size = bp at *
    go_loopw [12] (fun i wr => ∃ (j : Nat) (L : List (ByteArray × Int)) (hits misses : Nat) (va : Value) (c0 : Nat → Nat), i = .int .i64 (j : Int) ∧ j ≤ l.length ∧ Below w.heap.size w wr ∧ Hid (T3 wr b d xb w.heap.size bp n (L.map sf) hits misses j (L.map pf) hits misses j L hits misses va c0) ∧ Hid ((L.length : Int) ≤ n)) (fun i _ => l.length - (intOf i).toNat)
    case atStart => exact ⟨0, [], 0, 0, .slice none 0 0, c0, rfl, by omega, K3, T0, Lib.hid (by simp; omega)⟩
    case round =>
      obtain ⟨j, L, hits, misses, va, c1, rfl, hj, hB, hT, hL⟩ := hrel
      clear K3 T0
      have j0 : (0 : Int) ≤ j := by omega
      by_cases hlt : j < l.length
      · obtain ⟨ba, oa, rfl, a0, a1, a2⟩ := SlA.keep hB RA.out j hlt
        have hrs := HX.out (l.getD j ac0) (by unfold List.getD; rw [List.getElem?_eq_getElem hlt]; exact List.getElem_mem hlt)
        obtain ⟨⟨dd, k, v⟩, hv⟩ : ∃ x, l.getD j ac0 = x := ⟨_, rfl⟩
        rw [hv] at a0 a1 a2 hrs
        simp only at a0 a1 a2 hrs
        have HV := Lib.hid hv
        clear hv
        obtain ⟨_, hks, hv1, hv2⟩ := hrs
        have j1 : (j : Int) < l.length := by omega
        have HJ := Lib.hid j1
        go_wp2_with fail
        rw [convB]
        have BA := (Below.refl wr.heap.size wr).alloc (Nat.le_refl _) (Obj.cells #[Value.int .u8 (v % 256)] 5)
        have HA := Lib.hid (show ∀ u, Below w.heap.size w u → u.cell? ⟨ba, oa + j * 3, none⟩ = some (.int .i64 dd) ∧ u.cell? ⟨ba, oa + j * 3 + 1, none⟩ = some (.string k) ∧ u.cell? ⟨ba, oa + j * 3 + 2, none⟩ = some (.int .i64 v) from fun u hu => by
          obtain ⟨b', o', e', c0, c1, c2⟩ := SlA.keep hu RA.out j hlt
          cases e'
          rw [HV.out] at c0 c1 c2
          exact ⟨c0, c1, c2⟩)
        have KZ := Lib.hid (hB.trans (BA.mono hB.size))
        have TZ := Lib.hid (hT.out.below BA)
        have HND := Lib.hid (show (L.map (·.1)).Nodup by have := hT.out.s.cv.nodup; rw [List.map_map] at this; exact this)
        have HCN := Lib.hid (cnt_s hT.out.s)
        have HLE := Lib.hid (show L.length ≤ j by have := hT.out.s.cv.le.1; rw [List.length_map] at this; exact this)
        clear a0 a1 a2 BA hT
        generalize wr.alloc (Obj.cells #[Value.int .u8 (v % 256)] 5) = z at *
        generalize wr.heap.size = ga at *
        obtain ⟨a0, a1, a2⟩ := HA.out z KZ.out
        simp only [Result.andThen]
        rw [Oper.upon_value]
        go_wp2_with fail
        · obtain rfl := eq_of_beq ‹(dd == 0) = true›
          clear a0 a1 a2
          cases hl : lkv L k with
          | none =>
            have HK := Lib.hid hl
            clear hl
            refine (gets_none TZ.out k hks (by omega) HK.out).mono ?_
            rintro e w5 ⟨rfl, hb5, c5, T5⟩
            have K5 := Lib.hid (KZ.out.trans hb5)
            have T5 := Lib.hid T5
            obtain ⟨_, a1, _⟩ := HA.out w5 K5.out
            clear hb5 TZ KZ
            go_wp2_with fail
            clear a1
            refine (getp_none T5.out k hks (by omega) HK.out).mono ?_
            rintro e w6 ⟨rfl, hb6, c6, T6⟩
            have BA := (Below.refl w6.heap.size w6).alloc (Nat.le_refl _) (Obj.cells #[Value.string ⟨#[]⟩, Value.int .i64 0] 49)
            have K6 := K5.out.trans (hb6.mono HBP.out)
            have K7 := Lib.hid (K6.trans (BA.mono K6.size))
            have T7 := Lib.hid (T6.below BA)
            have q0 : (w6.alloc (Obj.cells #[Value.string ⟨#[]⟩, Value.int .i64 0] 49)).cell? ⟨w6.heap.size, 0, none⟩ = some (.string ⟨#[]⟩) := by go_cell
            have q1 : (w6.alloc (Obj.cells #[Value.string ⟨#[]⟩, Value.int .i64 0] 49)).cell? ⟨w6.heap.size, 1, none⟩ = some (.int .i64 0) := by go_cell
            have hx6 : w6.heap.size ≠ xb := by have := lt_cell T6.r.m; omega
            have hx7 : w6.heap.size < (w6.alloc (Obj.cells #[Value.string ⟨#[]⟩, Value.int .i64 0] 49)).heap.size := by simp
            have HX6 := Lib.hid hx6
            have HX7 := Lib.hid hx7
            have Q0 := Lib.hid q0
            have Q1 := Lib.hid q1
            obtain ⟨_, a1, _⟩ := HA.out (w6.alloc (Obj.cells #[Value.string ⟨#[]⟩, Value.int .i64 0] 49)) K7.out
            clear hb6 T5 K5 T6 K6 BA hx6 hx7 q0 q1
            go_wp2_with fail
            clear a1
            generalize w6.alloc (Obj.cells #[Value.string ⟨#[]⟩, Value.int .i64 0] 49) = w7 at *
            generalize w6.heap.size = g6 at *
            refine (getr_none T7.out k (by have := HLE.out; omega) HND.out (by have := HCN.out; omega) (by have := HCN.out; omega) HK.out).mono ?_
            rintro e w8 ⟨rfl, hb8, hk8, va8, c8, T8⟩
            have K8 := Lib.hid (K7.out.trans hb8)
            have hg8 := hk8 g6 HX7.out HX6.out
            have q0 : w8.cell? ⟨g6, 0, none⟩ = some (.string ⟨#[]⟩) := (World.cell?_of_block (a := ⟨g6, 0, none⟩) hg8).trans Q0.out
            have q1 : w8.cell? ⟨g6, 1, none⟩ = some (.int .i64 0) := (World.cell?_of_block (a := ⟨g6, 1, none⟩) hg8).trans Q1.out
            have T8 := Lib.hid T8
            clear hb8 hk8 hg8 Q0 Q1 K7 T7 HX6 HX7
            have HLL := Lib.hid (show (((L).length : Int)) ≤ n by exact hL.out)
            have TT := Lib.hid T8.out
            have KK := Lib.hid (K8.out)
            obtain ⟨L9, hL9⟩ : ∃ x, L = x := ⟨_, rfl⟩
            rw [hL9] at TT HLL
            clear hL9
            clear T8 K8
            go_wp2_with fail
            refine (keyss TT.out (by have := HLL.out; omega)).mono ?_
            rintro e u1 ⟨pa, ca, rfl, sa, hb1⟩
            have TT := Lib.hid (TT.out.below hb1)
            have KK := Lib.hid (KK.out.trans (hb1.mono KK.out.size))
            have SA := Lib.hid sa
            clear hb1 sa
            go_wp2_with fail
            refine (keysr TT.out (by have := HLL.out; omega)).mono ?_
            rintro e u2 ⟨pb, cb, rfl, sb, hb1⟩
            have TT := Lib.hid (TT.out.below hb1)
            have KK := Lib.hid (KK.out.trans (hb1.mono KK.out.size))
            have SA := Lib.hid (SlT.keep hb1 SA.out)
            have SB := Lib.hid sb
            clear hb1 sb
            go_wp2_with fail
            refine (streq pa pb _ ca cb u2 (by have := HLL.out; unfold maxLen; omega) SA.out SB.out).mono ?_
            rintro e u3 ⟨rfl, hb1⟩
            have TT := Lib.hid (TT.out.below hb1)
            have KK := Lib.hid (KK.out.trans (hb1.mono KK.out.size))
            clear hb1 SA SB
            go_wp2_with fail
            refine (keysp TT.out (by have := HLL.out; omega)).mono ?_
            rintro e u1 ⟨pa, ca, rfl, sa, hb1⟩
            have TT := Lib.hid (TT.out.below hb1)
            have KK := Lib.hid (KK.out.trans (hb1.mono KK.out.size))
            have SA := Lib.hid sa
            clear hb1 sa
            go_wp2_with fail
            refine (keysr TT.out (by have := HLL.out; omega)).mono ?_
            rintro e u2 ⟨pb, cb, rfl, sb, hb1⟩
            have TT := Lib.hid (TT.out.below hb1)
            have KK := Lib.hid (KK.out.trans (hb1.mono KK.out.size))
            have SA := Lib.hid (SlT.keep hb1 SA.out)
            have SB := Lib.hid sb
            clear hb1 sb
            go_wp2_with fail
            refine (streq pa pb _ ca cb u2 (by have := HLL.out; unfold maxLen; omega) SA.out SB.out).mono ?_
            rintro e u3 ⟨rfl, hb1⟩
            have TT := Lib.hid (TT.out.below hb1)
            have KK := Lib.hid (KK.out.trans (hb1.mono KK.out.size))
            clear hb1 SA SB
            go_wp2
            go_roundw
            case rel => exact ⟨j + 1, L9, hits, (misses + 1), _, _, by go_num, by omega, KK.out, TT, HLL⟩
            case measure => simp [intOf]; omega
          | some v1 =>
            have HK := Lib.hid hl
            clear hl
            refine (gets_some TZ.out k hks (by omega) v1 HK.out).mono ?_
            rintro e w5 ⟨rfl, hb5, c5, T5⟩
            have K5 := Lib.hid (KZ.out.trans hb5)
            have T5 := Lib.hid T5
            obtain ⟨_, a1, _⟩ := HA.out w5 K5.out
            clear hb5 TZ KZ
            go_wp2_with fail
            clear a1
            refine (getp_some T5.out k hks (by omega) v1 HK.out).mono ?_
            rintro e w6 ⟨rfl, hb6, c6, T6⟩
            have BA := (Below.refl w6.heap.size w6).alloc (Nat.le_refl _) (Obj.cells #[Value.string (bs1 v1), Value.int .i64 v1] 49)
            have K6 := K5.out.trans (hb6.mono HBP.out)
            have K7 := Lib.hid (K6.trans (BA.mono K6.size))
            have T7 := Lib.hid (T6.below BA)
            have q0 : (w6.alloc (Obj.cells #[Value.string (bs1 v1), Value.int .i64 v1] 49)).cell? ⟨w6.heap.size, 0, none⟩ = some (.string (bs1 v1)) := by go_cell
            have q1 : (w6.alloc (Obj.cells #[Value.string (bs1 v1), Value.int .i64 v1] 49)).cell? ⟨w6.heap.size, 1, none⟩ = some (.int .i64 v1) := by go_cell
            have hx6 : w6.heap.size ≠ xb := by have := lt_cell T6.r.m; omega
            have hx7 : w6.heap.size < (w6.alloc (Obj.cells #[Value.string (bs1 v1), Value.int .i64 v1] 49)).heap.size := by simp
            have HX6 := Lib.hid hx6
            have HX7 := Lib.hid hx7
            have Q0 := Lib.hid q0
            have Q1 := Lib.hid q1
            obtain ⟨_, a1, _⟩ := HA.out (w6.alloc (Obj.cells #[Value.string (bs1 v1), Value.int .i64 v1] 49)) K7.out
            clear hb6 T5 K5 T6 K6 BA hx6 hx7 q0 q1
            go_wp2_with fail
            clear a1
            generalize w6.alloc (Obj.cells #[Value.string (bs1 v1), Value.int .i64 v1] 49) = w7 at *
            generalize w6.heap.size = g6 at *
            refine (getr_some T7.out k (by have := HLE.out; omega) HND.out (by have := HCN.out; omega) (by have := HCN.out; omega) v1 HK.out).mono ?_
            rintro e w8 ⟨rfl, hb8, hk8, va8, c8, T8⟩
            have K8 := Lib.hid (K7.out.trans hb8)
            have hg8 := hk8 g6 HX7.out HX6.out
            have q0 : w8.cell? ⟨g6, 0, none⟩ = some (.string (bs1 v1)) := (World.cell?_of_block (a := ⟨g6, 0, none⟩) hg8).trans Q0.out
            have q1 : w8.cell? ⟨g6, 1, none⟩ = some (.int .i64 v1) := (World.cell?_of_block (a := ⟨g6, 1, none⟩) hg8).trans Q1.out
            have T8 := Lib.hid T8
            clear hb8 hk8 hg8 Q0 Q1 K7 T7 HX6 HX7
            have HQ := Lib.hid (And.intro q0 q1)
            clear q0 q1
            go_wp2_with fail
            rw [convB]
            have BA := (Below.refl w8.heap.size w8).alloc (Nat.le_refl _) (Obj.cells #[Value.int .u8 (v1 % 256)] 5)
            have q0 := BA.cell (p := ⟨g6, 0, none⟩) (lt_cell HQ.out.1) |>.trans HQ.out.1
            have q1 := BA.cell (p := ⟨g6, 1, none⟩) (lt_cell HQ.out.2) |>.trans HQ.out.2
            have K9 := Lib.hid (K8.out.trans (BA.mono K8.out.size))
            have T9 := Lib.hid (T8.out.below BA)
            clear BA K8 T8 HQ
            generalize w8.alloc (Obj.cells #[Value.int .u8 (v1 % 256)] 5) = w9 at *
            generalize w8.heap.size = g9 at *
            simp only [Result.andThen]
            rw [Oper.upon_value]
            have HLL := Lib.hid (show (((((k, v1) :: rml L k)).length : Int)) ≤ n by have := rml_lt HK.out; have := hL.out; rw [List.length_cons]; omega)
            have TT := Lib.hid T9.out
            have KK := Lib.hid (K9.out)
            obtain ⟨L9, hL9⟩ : ∃ x, ((k, v1) :: rml L k) = x := ⟨_, rfl⟩
            rw [hL9] at TT HLL
            clear hL9
            clear T9 K9
            go_wp2_with fail
            refine (keyss TT.out (by have := HLL.out; omega)).mono ?_
            rintro e u1 ⟨pa, ca, rfl, sa, hb1⟩
            have TT := Lib.hid (TT.out.below hb1)
            have KK := Lib.hid (KK.out.trans (hb1.mono KK.out.size))
            have SA := Lib.hid sa
            clear hb1 sa
            go_wp2_with fail
            refine (keysr TT.out (by have := HLL.out; omega)).mono ?_
            rintro e u2 ⟨pb, cb, rfl, sb, hb1⟩
            have TT := Lib.hid (TT.out.below hb1)
            have KK := Lib.hid (KK.out.trans (hb1.mono KK.out.size))
            have SA := Lib.hid (SlT.keep hb1 SA.out)
            have SB := Lib.hid sb
            clear hb1 sb
            go_wp2_with fail
            refine (streq pa pb _ ca cb u2 (by have := HLL.out; unfold maxLen; omega) SA.out SB.out).mono ?_
            rintro e u3 ⟨rfl, hb1⟩
            have TT := Lib.hid (TT.out.below hb1)
            have KK := Lib.hid (KK.out.trans (hb1.mono KK.out.size))
            clear hb1 SA SB
            go_wp2_with fail
            refine (keysp TT.out (by have := HLL.out; omega)).mono ?_
            rintro e u1 ⟨pa, ca, rfl, sa, hb1⟩
            have TT := Lib.hid (TT.out.below hb1)
            have KK := Lib.hid (KK.out.trans (hb1.mono KK.out.size))
            have SA := Lib.hid sa
            clear hb1 sa
            go_wp2_with fail
            refine (keysr TT.out (by have := HLL.out; omega)).mono ?_
            rintro e u2 ⟨pb, cb, rfl, sb, hb1⟩
            have TT := Lib.hid (TT.out.below hb1)
            have KK := Lib.hid (KK.out.trans (hb1.mono KK.out.size))
            have SA := Lib.hid (SlT.keep hb1 SA.out)
            have SB := Lib.hid sb
            clear hb1 sb
            go_wp2_with fail
            refine (streq pa pb _ ca cb u2 (by have := HLL.out; unfold maxLen; omega) SA.out SB.out).mono ?_
            rintro e u3 ⟨rfl, hb1⟩
            have TT := Lib.hid (TT.out.below hb1)
            have KK := Lib.hid (KK.out.trans (hb1.mono KK.out.size))
            clear hb1 SA SB
            go_wp2
            go_roundw
            case rel => exact ⟨j + 1, L9, (hits + 1), misses, _, _, by go_num, by omega, KK.out, TT, HLL⟩
            case measure => simp [intOf]; omega
        · obtain rfl := eq_of_beq ‹(dd == 1) = true›
          clear a0
          by_cases hm : ((rml L k).length : Int) + 1 ≤ n
          · have HM := Lib.hid hm
            clear hm
            have CPS := Lib.hid fun u (hu : Below z.heap.size z u) => puts_le (TZ.out.below hu) k v hks (by omega) (by omega) HM.out
            have KB : Below z.heap.size z z.drew := (Below.refl _ _).drew
            have KQ := Lib.hid (KZ.out.trans (KB.mono KZ.out.size))
            have hz9 : z.drew.cell? ⟨ba, oa + j * 3 + 1, none⟩ = some (.string k) ∧ z.drew.cell? ⟨ba, oa + j * 3 + 2, none⟩ = some (.int .i64 v) := ⟨a1, a2⟩
            clear a1 a2 TZ
            refine Rk.begin (S := fun wS => wS.cell? ⟨ba, oa + j * 3 + 1, none⟩ = some (.string k) ∧ wS.cell? ⟨ba, oa + j * 3 + 2, none⟩ = some (.int .i64 v)) 21 (by kernel_rfl) hz9 (fun hHeld => ?_)
            refine Rk.takeP (i := 0) (v := ?_) rfl (by kernel_rfl) (by kernel_rfl) (by kernel_rfl) (by kernel_rfl) (fun _ _ _ h => h) (Or.inl ⟨by kernel_rfl, ?_⟩) (by assumption) ?_
            rotate_left
            · ((intro w hSw; go_simp) <;> with_reducible rfl)
            try simp only [Act.put, List.setIfInBounds_toArray, List.set_cons_zero, List.set_cons_succ]
            refine Rk.takeP (i := 1) (v := ?_) rfl (by kernel_rfl) (by kernel_rfl) (by kernel_rfl) (by kernel_rfl) (fun _ _ _ h => h) (Or.inl ⟨by kernel_rfl, ?_⟩) (by assumption) ?_
            rotate_left
            · ((intro w hSw; go_simp) <;> with_reducible rfl)
            try simp only [Act.put, List.setIfInBounds_toArray, List.set_cons_zero, List.set_cons_succ]
            refine Rk.takeP (i := 2) (v := ?_) rfl (by kernel_rfl) (by kernel_rfl) (by kernel_rfl) (by kernel_rfl) (fun _ _ _ h => h) (Or.inl ⟨by kernel_rfl, ?_⟩) (by assumption) ?_
            rotate_left
            · ((intro w hSw; go_simp) <;> with_reducible rfl)
            try simp only [Act.put, List.setIfInBounds_toArray, List.set_cons_zero, List.set_cons_succ]
            refine Rk.takeP (i := 3) (v := ?_) rfl (by kernel_rfl) (by kernel_rfl) (by kernel_rfl) (by kernel_rfl) (fun _ _ _ h => h) (Or.inl ⟨by kernel_rfl, ?_⟩) (by assumption) ?_
            rotate_left
            · ((intro w hSw; go_simp) <;> with_reducible rfl)
            try simp only [Act.put, List.setIfInBounds_toArray, List.set_cons_zero, List.set_cons_succ]
            refine Rk.takeP (i := 4) (v := ?_) rfl (by kernel_rfl) (by kernel_rfl) (by kernel_rfl) (by kernel_rfl) (fun _ _ _ h => h) (Or.inl ⟨by kernel_rfl, ?_⟩) (by assumption) ?_
            rotate_left
            · ((intro w hSw; go_simp) <;> with_reducible rfl)
            try simp only [Act.put, List.setIfInBounds_toArray, List.set_cons_zero, List.set_cons_succ]
            refine Rk.take [7, 21] (i := 5) (v := ?_) rfl (by kernel_rfl) (by kernel_rfl) (by kernel_rfl) (by kernel_rfl) (by kernel_rfl) (fun _ _ _ h => h) (Or.inl ⟨by kernel_rfl, ?_⟩) (by assumption) ?_
            rotate_left
            · ((intro w hSw; (try dsimp only at hSw); go_simp) <;> with_reducible rfl)
            try simp only [Act.put, List.setIfInBounds_toArray, List.set_cons_zero, List.set_cons_succ]
            refine Rk.takeP (i := 6) (v := ?_) rfl (by kernel_rfl) (by kernel_rfl) (by kernel_rfl) (by kernel_rfl) (fun _ _ _ h => h) (Or.inl ⟨by kernel_rfl, ?_⟩) (by assumption) ?_
            rotate_left
            · ((intro w hSw; go_simp) <;> with_reducible rfl)
            try simp only [Act.put, List.setIfInBounds_toArray, List.set_cons_zero, List.set_cons_succ]
            refine Rk.takeP (i := 8) (v := ?_) rfl (by kernel_rfl) (by kernel_rfl) (by kernel_rfl) (by kernel_rfl) (fun _ _ _ h => h) (Or.inl ⟨by kernel_rfl, ?_⟩) (by assumption) ?_
            rotate_left
            · ((intro w hSw; go_simp) <;> with_reducible rfl)
            try simp only [Act.put, List.setIfInBounds_toArray, List.set_cons_zero, List.set_cons_succ]
            refine Rk.takeP (i := 9) (v := ?_) rfl (by kernel_rfl) (by kernel_rfl) (by kernel_rfl) (by kernel_rfl) (fun _ _ _ h => h) (Or.inl ⟨by kernel_rfl, ?_⟩) (by assumption) ?_
            rotate_left
            · ((intro w hSw; go_simp) <;> with_reducible rfl)
            try simp only [Act.put, List.setIfInBounds_toArray, List.set_cons_zero, List.set_cons_succ]
            refine Rk.takeP (i := 10) (v := ?_) rfl (by kernel_rfl) (by kernel_rfl) (by kernel_rfl) (by kernel_rfl) (fun _ _ _ h => h) (Or.inl ⟨by kernel_rfl, ?_⟩) (by assumption) ?_
            rotate_left
            · ((intro w hSw; go_simp) <;> with_reducible rfl)
            try simp only [Act.put, List.setIfInBounds_toArray, List.set_cons_zero, List.set_cons_succ]
            refine Rk.takeP (i := 11) (v := ?_) rfl (by kernel_rfl) (by kernel_rfl) (by kernel_rfl) (by kernel_rfl) (fun _ _ _ h => h) (Or.inl ⟨by kernel_rfl, ?_⟩) (by assumption) ?_
            rotate_left
            · ((intro w hSw; go_simp) <;> with_reducible rfl)
            try simp only [Act.put, List.setIfInBounds_toArray, List.set_cons_zero, List.set_cons_succ]
            refine Rk.takeP (i := 12) (v := ?_) rfl (by kernel_rfl) (by kernel_rfl) (by kernel_rfl) (by kernel_rfl) (fun _ _ _ h => h) (Or.inl ⟨by kernel_rfl, ?_⟩) (by assumption) ?_
            rotate_left
            · ((intro w hSw; go_simp) <;> with_reducible rfl)
            try simp only [Act.put, List.setIfInBounds_toArray, List.set_cons_zero, List.set_cons_succ]
            refine Rk.take [21] (i := 13) (v := ?_) rfl (by kernel_rfl) (by kernel_rfl) (by kernel_rfl) (by kernel_rfl) (by kernel_rfl) (fun _ _ _ h => h) (Or.inl ⟨by kernel_rfl, ?_⟩) (by assumption) ?_
            rotate_left
            · ((intro w hSw; (try dsimp only at hSw); go_simp) <;> with_reducible rfl)
            try simp only [Act.put, List.setIfInBounds_toArray, List.set_cons_zero, List.set_cons_succ]
            refine Rk.takeP (i := 14) (v := ?_) rfl (by kernel_rfl) (by kernel_rfl) (by kernel_rfl) (by kernel_rfl) (fun _ _ _ h => h) (Or.inl ⟨by kernel_rfl, ?_⟩) (by assumption) ?_
            rotate_left
            · ((intro w hSw; go_simp) <;> with_reducible rfl)
            try simp only [Act.put, List.setIfInBounds_toArray, List.set_cons_zero, List.set_cons_succ]
            refine Rk.takeP (i := 15) (v := ?_) rfl (by kernel_rfl) (by kernel_rfl) (by kernel_rfl) (by kernel_rfl) (fun _ _ _ h => h) (Or.inl ⟨by kernel_rfl, ?_⟩) (by assumption) ?_
            rotate_left
            · ((intro w hSw; go_simp) <;> with_reducible rfl)
            try simp only [Act.put, List.setIfInBounds_toArray, List.set_cons_zero, List.set_cons_succ]
            refine Rk.takeP (i := 16) (v := ?_) rfl (by kernel_rfl) (by kernel_rfl) (by kernel_rfl) (by kernel_rfl) (fun _ _ _ h => h) (Or.inl ⟨by kernel_rfl, ?_⟩) (by assumption) ?_
            rotate_left
            · ((intro w hSw; go_simp) <;> with_reducible rfl)
            try simp only [Act.put, List.setIfInBounds_toArray, List.set_cons_zero, List.set_cons_succ]
            refine Rk.takeP (i := 17) (v := ?_) rfl (by kernel_rfl) (by kernel_rfl) (by kernel_rfl) (by kernel_rfl) (fun _ _ _ h => h) (Or.inl ⟨by kernel_rfl, ?_⟩) (by assumption) ?_
            rotate_left
            · ((intro w hSw; go_simp) <;> with_reducible rfl)
            try simp only [Act.put, List.setIfInBounds_toArray, List.set_cons_zero, List.set_cons_succ]
            refine Rk.takeP (i := 18) (v := ?_) rfl (by kernel_rfl) (by kernel_rfl) (by kernel_rfl) (by kernel_rfl) (fun _ _ _ h => h) (Or.inl ⟨by kernel_rfl, ?_⟩) (by assumption) ?_
            rotate_left
            · ((intro w hSw; go_simp) <;> with_reducible rfl)
            try simp only [Act.put, List.setIfInBounds_toArray, List.set_cons_zero, List.set_cons_succ]
            refine Rk.take [20, 21] (i := 19) (v := ?_) rfl (by kernel_rfl) (by kernel_rfl) (by kernel_rfl) (by kernel_rfl) (by kernel_rfl) (fun _ _ _ h => h) (Or.inl ⟨by kernel_rfl, ?_⟩) (by assumption) ?_
            rotate_left
            · ((intro w hSw; (try dsimp only at hSw); go_simp) <;> with_reducible rfl)
            try simp only [Act.put, List.setIfInBounds_toArray, List.set_cons_zero, List.set_cons_succ]
            refine Rk.takeP (i := 20) (v := ?_) rfl (by kernel_rfl) (by kernel_rfl) (by kernel_rfl) (by kernel_rfl) (fun _ _ _ h => h) (Or.inl ⟨by kernel_rfl, ?_⟩) (by assumption) ?_
            rotate_left
            · ((intro w hSw; go_simp) <;> with_reducible rfl)
            try simp only [Act.put, List.setIfInBounds_toArray, List.set_cons_zero, List.set_cons_succ]
            refine Rk.one (i := 7) (by kernel_rfl) rfl (fun KK hK => ?_)
            rw [if_pos (by kernel_rfl)]
            go_simp
            ((with_reducible refine (CPS.out _ KB).mono ?_); rintro e w5 ⟨rfl, hb5, c5, T5⟩)
            have K5 := Lib.hid (KQ.out.trans hb5)
            have T5 := Lib.hid T5
            obtain ⟨_, a1, a2⟩ := HA.out w5 K5.out
            refine hK.out _ _ ⟨a1, a2⟩ (fun hHeld => ?_)
            clear hb5 a1 a2
            clear hK KK
            refine Rk.tail [21, 22, 23] [_, _, _] (by kernel_rfl) (by kernel_rfl) rfl (by decide) ?_
            clear hHeld hz9 CPS KB KQ
            go_wp2_with fail
            refine (putp_le T5.out k v hks (by omega) (by omega) (by have := HM.out; omega)).mono ?_
            rintro e w6 ⟨rfl, hb6, c6, T6⟩
            have K6 := Lib.hid (K5.out.trans (hb6.mono HBP.out))
            have T6 := Lib.hid T6
            clear hb6 T5 K5
            go_wp2_with fail
            have hz9 : w6.drew.cell? ⟨ba, oa + j * 3 + 1, none⟩ = some (.string k) ∧ w6.drew.cell? ⟨ba, oa + j * 3 + 2, none⟩ = some (.int .i64 v) := (HA.out w6 K6.out).2
            refine Rk.begin (S := fun wS => wS.cell? ⟨ba, oa + j * 3 + 1, none⟩ = some (.string k) ∧ wS.cell? ⟨ba, oa + j * 3 + 2, none⟩ = some (.int .i64 v)) 10 (by kernel_rfl) hz9 (fun hHeld => ?_)
            refine Rk.takeP (i := 0) (v := ?_) rfl (by kernel_rfl) (by kernel_rfl) (by kernel_rfl) (by kernel_rfl) (fun _ _ _ h => h) (Or.inl ⟨by kernel_rfl, ?_⟩) (by assumption) ?_
            rotate_left
            · ((intro w hSw; go_simp) <;> with_reducible rfl)
            try simp only [Act.put, List.setIfInBounds_toArray, List.set_cons_zero, List.set_cons_succ]
            refine Rk.takeP (i := 1) (v := ?_) rfl (by kernel_rfl) (by kernel_rfl) (by kernel_rfl) (by kernel_rfl) (fun _ _ _ h => h) (Or.inl ⟨by kernel_rfl, ?_⟩) (by assumption) ?_
            rotate_left
            · ((intro w hSw; go_simp) <;> with_reducible rfl)
            try simp only [Act.put, List.setIfInBounds_toArray, List.set_cons_zero, List.set_cons_succ]
            refine Rk.takeP (i := 2) (v := ?_) rfl (by kernel_rfl) (by kernel_rfl) (by kernel_rfl) (by kernel_rfl) (fun _ _ _ h => h) (Or.inl ⟨by kernel_rfl, ?_⟩) (by assumption) ?_
            rotate_left
            · ((intro w hSw; go_simp) <;> with_reducible rfl)
            try simp only [Act.put, List.setIfInBounds_toArray, List.set_cons_zero, List.set_cons_succ]
            refine Rk.takeP (i := 3) (v := ?_) rfl (by kernel_rfl) (by kernel_rfl) (by kernel_rfl) (by kernel_rfl) (fun _ _ _ h => h) (Or.inl ⟨by kernel_rfl, ?_⟩) (by assumption) ?_
            rotate_left
            · ((intro w hSw; go_simp) <;> with_reducible rfl)
            try simp only [Act.put, List.setIfInBounds_toArray, List.set_cons_zero, List.set_cons_succ]
            refine Rk.take [10] (i := 4) (v := ?_) rfl (by kernel_rfl) (by kernel_rfl) (by kernel_rfl) (by kernel_rfl) (by kernel_rfl) (fun _ _ _ h => h) (Or.inl ⟨by kernel_rfl, ?_⟩) (by assumption) ?_
            rotate_left
            · ((intro w hSw; (try dsimp only at hSw); go_simp) <;> with_reducible rfl)
            try simp only [Act.put, List.setIfInBounds_toArray, List.set_cons_zero, List.set_cons_succ]
            refine Rk.takeP (i := 5) (v := ?_) rfl (by kernel_rfl) (by kernel_rfl) (by kernel_rfl) (by kernel_rfl) (fun _ _ _ h => h) (Or.inl ⟨by kernel_rfl, ?_⟩) (by assumption) ?_
            rotate_left
            · ((intro w hSw; go_simp) <;> with_reducible rfl)
            try simp only [Act.put, List.setIfInBounds_toArray, List.set_cons_zero, List.set_cons_succ]
            refine Rk.takeP (i := 6) (v := ?_) rfl (by kernel_rfl) (by kernel_rfl) (by kernel_rfl) (by kernel_rfl) (fun _ _ _ h => h) (Or.inl ⟨by kernel_rfl, ?_⟩) (by assumption) ?_
            rotate_left
            · ((intro w hSw; go_simp) <;> with_reducible rfl)
            try simp only [Act.put, List.setIfInBounds_toArray, List.set_cons_zero, List.set_cons_succ]
            refine Rk.takeP (i := 7) (v := ?_) rfl (by kernel_rfl) (by kernel_rfl) (by kernel_rfl) (by kernel_rfl) (fun _ _ _ h => h) (Or.inl ⟨by kernel_rfl, ?_⟩) (by assumption) ?_
            rotate_left
            · ((intro w hSw; go_simp) <;> with_reducible rfl)
            try simp only [Act.put, List.setIfInBounds_toArray, List.set_cons_zero, List.set_cons_succ]
            refine Rk.takeP (i := 8) (v := ?_) rfl (by kernel_rfl) (by kernel_rfl) (by kernel_rfl) (by kernel_rfl) (fun _ _ _ h => h) (Or.inl ⟨by kernel_rfl, ?_⟩) (by assumption) ?_
            rotate_left
            · ((intro w hSw; go_simp) <;> with_reducible rfl)
            try simp only [Act.put, List.setIfInBounds_toArray, List.set_cons_zero, List.set_cons_succ]
            refine Rk.take [10] (i := 9) (v := ?_) rfl (by kernel_rfl) (by kernel_rfl) (by kernel_rfl) (by kernel_rfl) (by kernel_rfl) (fun _ _ _ h => h) (Or.inl ⟨by kernel_rfl, ?_⟩) (by assumption) ?_
            rotate_left
            · ((intro w hSw; (try dsimp only at hSw); go_simp) <;> with_reducible rfl)
            try simp only [Act.put, List.setIfInBounds_toArray, List.set_cons_zero, List.set_cons_succ]
            refine Rk.tail [10, 11] [_, _] (by kernel_rfl) (by kernel_rfl) rfl (by decide) ?_
            clear hHeld hz9
            have T6 := Lib.hid (T6.out.below (Below.refl _ _).drew)
            have K6 := Lib.hid (K6.out.trans ((Below.refl _ _).drew.mono K6.out.size))
            go_wp2_with fail
            refine (putr_le T6.out k v hL.out (by omega) n1 HND.out (by have := HM.out; omega)).mono ?_
            rintro e w7 ⟨rfl, hb7, _, va7, c7, T7⟩
            have K7 := K6.out.trans hb7
            have HLL := Lib.hid (show (((((k, v) :: rml L k)).length : Int)) ≤ n by have := HM.out; rw [List.length_cons]; omega)
            have TT := Lib.hid T7
            have KK := Lib.hid (K7)
            obtain ⟨L9, hL9⟩ : ∃ x, ((k, v) :: rml L k) = x := ⟨_, rfl⟩
            rw [hL9] at TT HLL
            clear hL9
            clear T7 K7 hb7 T6 K6
            go_wp2_with fail
            refine (keyss TT.out (by have := HLL.out; omega)).mono ?_
            rintro e u1 ⟨pa, ca, rfl, sa, hb1⟩
            have TT := Lib.hid (TT.out.below hb1)
            have KK := Lib.hid (KK.out.trans (hb1.mono KK.out.size))
            have SA := Lib.hid sa
            clear hb1 sa
            go_wp2_with fail
            refine (keysr TT.out (by have := HLL.out; omega)).mono ?_
            rintro e u2 ⟨pb, cb, rfl, sb, hb1⟩
            have TT := Lib.hid (TT.out.below hb1)
            have KK := Lib.hid (KK.out.trans (hb1.mono KK.out.size))
            have SA := Lib.hid (SlT.keep hb1 SA.out)
            have SB := Lib.hid sb
            clear hb1 sb
            go_wp2_with fail
            refine (streq pa pb _ ca cb u2 (by have := HLL.out; unfold maxLen; omega) SA.out SB.out).mono ?_
            rintro e u3 ⟨rfl, hb1⟩
            have TT := Lib.hid (TT.out.below hb1)
            have KK := Lib.hid (KK.out.trans (hb1.mono KK.out.size))
            clear hb1 SA SB
            go_wp2_with fail
            refine (keysp TT.out (by have := HLL.out; omega)).mono ?_
            rintro e u1 ⟨pa, ca, rfl, sa, hb1⟩
            have TT := Lib.hid (TT.out.below hb1)
            have KK := Lib.hid (KK.out.trans (hb1.mono KK.out.size))
            have SA := Lib.hid sa
            clear hb1 sa
            go_wp2_with fail
            refine (keysr TT.out (by have := HLL.out; omega)).mono ?_
            rintro e u2 ⟨pb, cb, rfl, sb, hb1⟩
            have TT := Lib.hid (TT.out.below hb1)
            have KK := Lib.hid (KK.out.trans (hb1.mono KK.out.size))
            have SA := Lib.hid (SlT.keep hb1 SA.out)
            have SB := Lib.hid sb
            clear hb1 sb
            go_wp2_with fail
            refine (streq pa pb _ ca cb u2 (by have := HLL.out; unfold maxLen; omega) SA.out SB.out).mono ?_
            rintro e u3 ⟨rfl, hb1⟩
            have TT := Lib.hid (TT.out.below hb1)
            have KK := Lib.hid (KK.out.trans (hb1.mono KK.out.size))
            clear hb1 SA SB
            go_wp2
            go_roundw
            case rel => exact ⟨j + 1, L9, hits, misses, _, _, by go_num, by omega, KK.out, TT, HLL⟩
            case measure => simp [intOf]; omega
          · have HM := Lib.hid hm
            clear hm
            have CPS := Lib.hid fun u (hu : Below z.heap.size z u) => puts_gt (TZ.out.below hu) k v hks (by omega) (by omega) HM.out
            have KB : Below z.heap.size z z.drew := (Below.refl _ _).drew
            have KQ := Lib.hid (KZ.out.trans (KB.mono KZ.out.size))
            have hz9 : z.drew.cell? ⟨ba, oa + j * 3 + 1, none⟩ = some (.string k) ∧ z.drew.cell? ⟨ba, oa + j * 3 + 2, none⟩ = some (.int .i64 v) := ⟨a1, a2⟩
            clear a1 a2 TZ
            refine Rk.begin (S := fun wS => wS.cell? ⟨ba, oa + j * 3 + 1, none⟩ = some (.string k) ∧ wS.cell? ⟨ba, oa + j * 3 + 2, none⟩ = some (.int .i64 v)) 21 (by kernel_rfl) hz9 (fun hHeld => ?_)
            refine Rk.takeP (i := 0) (v := ?_) rfl (by kernel_rfl) (by kernel_rfl) (by kernel_rfl) (by kernel_rfl) (fun _ _ _ h => h) (Or.inl ⟨by kernel_rfl, ?_⟩) (by assumption) ?_
            rotate_left
            · ((intro w hSw; go_simp) <;> with_reducible rfl)
            try simp only [Act.put, List.setIfInBounds_toArray, List.set_cons_zero, List.set_cons_succ]
            refine Rk.takeP (i := 1) (v := ?_) rfl (by kernel_rfl) (by kernel_rfl) (by kernel_rfl) (by kernel_rfl) (fun _ _ _ h => h) (Or.inl ⟨by kernel_rfl, ?_⟩) (by assumption) ?_
            rotate_left
            · ((intro w hSw; go_simp) <;> with_reducible rfl)
            try simp only [Act.put, List.setIfInBounds_toArray, List.set_cons_zero, List.set_cons_succ]
            refine Rk.takeP (i := 2) (v := ?_) rfl (by kernel_rfl) (by kernel_rfl) (by kernel_rfl) (by kernel_rfl) (fun _ _ _ h => h) (Or.inl ⟨by kernel_rfl, ?_⟩) (by assumption) ?_
            rotate_left
            · ((intro w hSw; go_simp) <;> with_reducible rfl)
            try simp only [Act.put, List.setIfInBounds_toArray, List.set_cons_zero, List.set_cons_succ]
            refine Rk.takeP (i := 3) (v := ?_) rfl (by kernel_rfl) (by kernel_rfl) (by kernel_rfl) (by kernel_rfl) (fun _ _ _ h => h) (Or.inl ⟨by kernel_rfl, ?_⟩) (by assumption) ?_
            rotate_left
            · ((intro w hSw; go_simp) <;> with_reducible rfl)
            try simp only [Act.put, List.setIfInBounds_toArray, List.set_cons_zero, List.set_cons_succ]
            refine Rk.takeP (i := 4) (v := ?_) rfl (by kernel_rfl) (by kernel_rfl) (by kernel_rfl) (by kernel_rfl) (fun _ _ _ h => h) (Or.inl ⟨by kernel_rfl, ?_⟩) (by assumption) ?_
            rotate_left
            · ((intro w hSw; go_simp) <;> with_reducible rfl)
            try simp only [Act.put, List.setIfInBounds_toArray, List.set_cons_zero, List.set_cons_succ]
            refine Rk.take [7, 21] (i := 5) (v := ?_) rfl (by kernel_rfl) (by kernel_rfl) (by kernel_rfl) (by kernel_rfl) (by kernel_rfl) (fun _ _ _ h => h) (Or.inl ⟨by kernel_rfl, ?_⟩) (by assumption) ?_
            rotate_left
            · ((intro w hSw; (try dsimp only at hSw); go_simp) <;> with_reducible rfl)
            try simp only [Act.put, List.setIfInBounds_toArray, List.set_cons_zero, List.set_cons_succ]
            refine Rk.takeP (i := 6) (v := ?_) rfl (by kernel_rfl) (by kernel_rfl) (by kernel_rfl) (by kernel_rfl) (fun _ _ _ h => h) (Or.inl ⟨by kernel_rfl, ?_⟩) (by assumption) ?_
            rotate_left
            · ((intro w hSw; go_simp) <;> with_reducible rfl)
            try simp only [Act.put, List.setIfInBounds_toArray, List.set_cons_zero, List.set_cons_succ]
            refine Rk.takeP (i := 8) (v := ?_) rfl (by kernel_rfl) (by kernel_rfl) (by kernel_rfl) (by kernel_rfl) (fun _ _ _ h => h) (Or.inl ⟨by kernel_rfl, ?_⟩) (by assumption) ?_
            rotate_left
            · ((intro w hSw; go_simp) <;> with_reducible rfl)
            try simp only [Act.put, List.setIfInBounds_toArray, List.set_cons_zero, List.set_cons_succ]
            refine Rk.takeP (i := 9) (v := ?_) rfl (by kernel_rfl) (by kernel_rfl) (by kernel_rfl) (by kernel_rfl) (fun _ _ _ h => h) (Or.inl ⟨by kernel_rfl, ?_⟩) (by assumption) ?_
            rotate_left
            · ((intro w hSw; go_simp) <;> with_reducible rfl)
            try simp only [Act.put, List.setIfInBounds_toArray, List.set_cons_zero, List.set_cons_succ]
            refine Rk.takeP (i := 10) (v := ?_) rfl (by kernel_rfl) (by kernel_rfl) (by kernel_rfl) (by kernel_rfl) (fun _ _ _ h => h) (Or.inl ⟨by kernel_rfl, ?_⟩) (by assumption) ?_
            rotate_left
            · ((intro w hSw; go_simp) <;> with_reducible rfl)
            try simp only [Act.put, List.setIfInBounds_toArray, List.set_cons_zero, List.set_cons_succ]
            refine Rk.takeP (i := 11) (v := ?_) rfl (by kernel_rfl) (by kernel_rfl) (by kernel_rfl) (by kernel_rfl) (fun _ _ _ h => h) (Or.inl ⟨by kernel_rfl, ?_⟩) (by assumption) ?_
            rotate_left
            · ((intro w hSw; go_simp) <;> with_reducible rfl)
            try simp only [Act.put, List.setIfInBounds_toArray, List.set_cons_zero, List.set_cons_succ]
            refine Rk.takeP (i := 12) (v := ?_) rfl (by kernel_rfl) (by kernel_rfl) (by kernel_rfl) (by kernel_rfl) (fun _ _ _ h => h) (Or.inl ⟨by kernel_rfl, ?_⟩) (by assumption) ?_
            rotate_left
            · ((intro w hSw; go_simp) <;> with_reducible rfl)
            try simp only [Act.put, List.setIfInBounds_toArray, List.set_cons_zero, List.set_cons_succ]
            refine Rk.take [21] (i := 13) (v := ?_) rfl (by kernel_rfl) (by kernel_rfl) (by kernel_rfl) (by kernel_rfl) (by kernel_rfl) (fun _ _ _ h => h) (Or.inl ⟨by kernel_rfl, ?_⟩) (by assumption) ?_
            rotate_left
            · ((intro w hSw; (try dsimp only at hSw); go_simp) <;> with_reducible rfl)
            try simp only [Act.put, List.setIfInBounds_toArray, List.set_cons_zero, List.set_cons_succ]
            refine Rk.takeP (i := 14) (v := ?_) rfl (by kernel_rfl) (by kernel_rfl) (by kernel_rfl) (by kernel_rfl) (fun _ _ _ h => h) (Or.inl ⟨by kernel_rfl, ?_⟩) (by assumption) ?_
            rotate_left
            · ((intro w hSw; go_simp) <;> with_reducible rfl)
            try simp only [Act.put, List.setIfInBounds_toArray, List.set_cons_zero, List.set_cons_succ]
            refine Rk.takeP (i := 15) (v := ?_) rfl (by kernel_rfl) (by kernel_rfl) (by kernel_rfl) (by kernel_rfl) (fun _ _ _ h => h) (Or.inl ⟨by kernel_rfl, ?_⟩) (by assumption) ?_
            rotate_left
            · ((intro w hSw; go_simp) <;> with_reducible rfl)
            try simp only [Act.put, List.setIfInBounds_toArray, List.set_cons_zero, List.set_cons_succ]
            refine Rk.takeP (i := 16) (v := ?_) rfl (by kernel_rfl) (by kernel_rfl) (by kernel_rfl) (by kernel_rfl) (fun _ _ _ h => h) (Or.inl ⟨by kernel_rfl, ?_⟩) (by assumption) ?_
            rotate_left
            · ((intro w hSw; go_simp) <;> with_reducible rfl)
            try simp only [Act.put, List.setIfInBounds_toArray, List.set_cons_zero, List.set_cons_succ]
            refine Rk.takeP (i := 17) (v := ?_) rfl (by kernel_rfl) (by kernel_rfl) (by kernel_rfl) (by kernel_rfl) (fun _ _ _ h => h) (Or.inl ⟨by kernel_rfl, ?_⟩) (by assumption) ?_
            rotate_left
            · ((intro w hSw; go_simp) <;> with_reducible rfl)
            try simp only [Act.put, List.setIfInBounds_toArray, List.set_cons_zero, List.set_cons_succ]
            refine Rk.takeP (i := 18) (v := ?_) rfl (by kernel_rfl) (by kernel_rfl) (by kernel_rfl) (by kernel_rfl) (fun _ _ _ h => h) (Or.inl ⟨by kernel_rfl, ?_⟩) (by assumption) ?_
            rotate_left
            · ((intro w hSw; go_simp) <;> with_reducible rfl)
            try simp only [Act.put, List.setIfInBounds_toArray, List.set_cons_zero, List.set_cons_succ]
            refine Rk.take [20, 21] (i := 19) (v := ?_) rfl (by kernel_rfl) (by kernel_rfl) (by kernel_rfl) (by kernel_rfl) (by kernel_rfl) (fun _ _ _ h => h) (Or.inl ⟨by kernel_rfl, ?_⟩) (by assumption) ?_
            rotate_left
            · ((intro w hSw; (try dsimp only at hSw); go_simp) <;> with_reducible rfl)
            try simp only [Act.put, List.setIfInBounds_toArray, List.set_cons_zero, List.set_cons_succ]
            refine Rk.takeP (i := 20) (v := ?_) rfl (by kernel_rfl) (by kernel_rfl) (by kernel_rfl) (by kernel_rfl) (fun _ _ _ h => h) (Or.inl ⟨by kernel_rfl, ?_⟩) (by assumption) ?_
            rotate_left
            · ((intro w hSw; go_simp) <;> with_reducible rfl)
            try simp only [Act.put, List.setIfInBounds_toArray, List.set_cons_zero, List.set_cons_succ]
            refine Rk.one (i := 7) (by kernel_rfl) rfl (fun KK hK => ?_)
            rw [if_pos (by kernel_rfl)]
            go_simp
            ((with_reducible refine (CPS.out _ KB).mono ?_); rintro e w5 ⟨rfl, hb5, c5, T5⟩)
            have K5 := Lib.hid (KQ.out.trans hb5)
            have T5 := Lib.hid T5
            obtain ⟨_, a1, a2⟩ := HA.out w5 K5.out
            refine hK.out _ _ ⟨a1, a2⟩ (fun hHeld => ?_)
            clear hb5 a1 a2
            clear hK KK
            refine Rk.tail [21, 22, 23] [_, _, _] (by kernel_rfl) (by kernel_rfl) rfl (by decide) ?_
            clear hHeld hz9 CPS KB KQ
            go_wp2_with fail
            refine (putp_gt T5.out k v hks (by omega) (by omega) (by have := HM.out; omega)).mono ?_
            rintro e w6 ⟨rfl, hb6, c6, T6⟩
            have K6 := Lib.hid (K5.out.trans (hb6.mono HBP.out))
            have T6 := Lib.hid T6
            clear hb6 T5 K5
            go_wp2_with fail
            have hz9 : w6.drew.cell? ⟨ba, oa + j * 3 + 1, none⟩ = some (.string k) ∧ w6.drew.cell? ⟨ba, oa + j * 3 + 2, none⟩ = some (.int .i64 v) := (HA.out w6 K6.out).2
            refine Rk.begin (S := fun wS => wS.cell? ⟨ba, oa + j * 3 + 1, none⟩ = some (.string k) ∧ wS.cell? ⟨ba, oa + j * 3 + 2, none⟩ = some (.int .i64 v)) 10 (by kernel_rfl) hz9 (fun hHeld => ?_)
            refine Rk.takeP (i := 0) (v := ?_) rfl (by kernel_rfl) (by kernel_rfl) (by kernel_rfl) (by kernel_rfl) (fun _ _ _ h => h) (Or.inl ⟨by kernel_rfl, ?_⟩) (by assumption) ?_
            rotate_left
            · ((intro w hSw; go_simp) <;> with_reducible rfl)
            try simp only [Act.put, List.setIfInBounds_toArray, List.set_cons_zero, List.set_cons_succ]
            refine Rk.takeP (i := 1) (v := ?_) rfl (by kernel_rfl) (by kernel_rfl) (by kernel_rfl) (by kernel_rfl) (fun _ _ _ h => h) (Or.inl ⟨by kernel_rfl, ?_⟩) (by assumption) ?_
            rotate_left
            · ((intro w hSw; go_simp) <;> with_reducible rfl)
            try simp only [Act.put, List.setIfInBounds_toArray, List.set_cons_zero, List.set_cons_succ]
            refine Rk.takeP (i := 2) (v := ?_) rfl (by kernel_rfl) (by kernel_rfl) (by kernel_rfl) (by kernel_rfl) (fun _ _ _ h => h) (Or.inl ⟨by kernel_rfl, ?_⟩) (by assumption) ?_
            rotate_left
            · ((intro w hSw; go_simp) <;> with_reducible rfl)
            try simp only [Act.put, List.setIfInBounds_toArray, List.set_cons_zero, List.set_cons_succ]
            refine Rk.takeP (i := 3) (v := ?_) rfl (by kernel_rfl) (by kernel_rfl) (by kernel_rfl) (by kernel_rfl) (fun _ _ _ h => h) (Or.inl ⟨by kernel_rfl, ?_⟩) (by assumption) ?_
            rotate_left
            · ((intro w hSw; go_simp) <;> with_reducible rfl)
            try simp only [Act.put, List.setIfInBounds_toArray, List.set_cons_zero, List.set_cons_succ]
            refine Rk.take [10] (i := 4) (v := ?_) rfl (by kernel_rfl) (by kernel_rfl) (by kernel_rfl) (by kernel_rfl) (by kernel_rfl) (fun _ _ _ h => h) (Or.inl ⟨by kernel_rfl, ?_⟩) (by assumption) ?_
            rotate_left
            · ((intro w hSw; (try dsimp only at hSw); go_simp) <;> with_reducible rfl)
            try simp only [Act.put, List.setIfInBounds_toArray, List.set_cons_zero, List.set_cons_succ]
            refine Rk.takeP (i := 5) (v := ?_) rfl (by kernel_rfl) (by kernel_rfl) (by kernel_rfl) (by kernel_rfl) (fun _ _ _ h => h) (Or.inl ⟨by kernel_rfl, ?_⟩) (by assumption) ?_
            rotate_left
            · ((intro w hSw; go_simp) <;> with_reducible rfl)
            try simp only [Act.put, List.setIfInBounds_toArray, List.set_cons_zero, List.set_cons_succ]
            refine Rk.takeP (i := 6) (v := ?_) rfl (by kernel_rfl) (by kernel_rfl) (by kernel_rfl) (by kernel_rfl) (fun _ _ _ h => h) (Or.inl ⟨by kernel_rfl, ?_⟩) (by assumption) ?_
            rotate_left
            · ((intro w hSw; go_simp) <;> with_reducible rfl)
            try simp only [Act.put, List.setIfInBounds_toArray, List.set_cons_zero, List.set_cons_succ]
            refine Rk.takeP (i := 7) (v := ?_) rfl (by kernel_rfl) (by kernel_rfl) (by kernel_rfl) (by kernel_rfl) (fun _ _ _ h => h) (Or.inl ⟨by kernel_rfl, ?_⟩) (by assumption) ?_
            rotate_left
            · ((intro w hSw; go_simp) <;> with_reducible rfl)
            try simp only [Act.put, List.setIfInBounds_toArray, List.set_cons_zero, List.set_cons_succ]
            refine Rk.takeP (i := 8) (v := ?_) rfl (by kernel_rfl) (by kernel_rfl) (by kernel_rfl) (by kernel_rfl) (fun _ _ _ h => h) (Or.inl ⟨by kernel_rfl, ?_⟩) (by assumption) ?_
            rotate_left
            · ((intro w hSw; go_simp) <;> with_reducible rfl)
            try simp only [Act.put, List.setIfInBounds_toArray, List.set_cons_zero, List.set_cons_succ]
            refine Rk.take [10] (i := 9) (v := ?_) rfl (by kernel_rfl) (by kernel_rfl) (by kernel_rfl) (by kernel_rfl) (by kernel_rfl) (fun _ _ _ h => h) (Or.inl ⟨by kernel_rfl, ?_⟩) (by assumption) ?_
            rotate_left
            · ((intro w hSw; (try dsimp only at hSw); go_simp) <;> with_reducible rfl)
            try simp only [Act.put, List.setIfInBounds_toArray, List.set_cons_zero, List.set_cons_succ]
            refine Rk.tail [10, 11] [_, _] (by kernel_rfl) (by kernel_rfl) rfl (by decide) ?_
            clear hHeld hz9
            have T6 := Lib.hid (T6.out.below (Below.refl _ _).drew)
            have K6 := Lib.hid (K6.out.trans ((Below.refl _ _).drew.mono K6.out.size))
            go_wp2_with fail
            refine (putr_gt T6.out k v hL.out (by omega) n1 HND.out (by have := HM.out; omega)).mono ?_
            rintro e w7 ⟨rfl, hb7, _, va7, c7, T7⟩
            have K7 := K6.out.trans hb7
            have HLL := Lib.hid (show (((((k, v) :: rml L k).dropLast).length : Int)) ≤ n by have := rml_len L k; have := hL.out; rw [List.length_dropLast, List.length_cons]; omega)
            have TT := Lib.hid T7
            have KK := Lib.hid (K7)
            obtain ⟨L9, hL9⟩ : ∃ x, ((k, v) :: rml L k).dropLast = x := ⟨_, rfl⟩
            rw [hL9] at TT HLL
            clear hL9
            clear T7 K7 hb7 T6 K6
            go_wp2_with fail
            refine (keyss TT.out (by have := HLL.out; omega)).mono ?_
            rintro e u1 ⟨pa, ca, rfl, sa, hb1⟩
            have TT := Lib.hid (TT.out.below hb1)
            have KK := Lib.hid (KK.out.trans (hb1.mono KK.out.size))
            have SA := Lib.hid sa
            clear hb1 sa
            go_wp2_with fail
            refine (keysr TT.out (by have := HLL.out; omega)).mono ?_
            rintro e u2 ⟨pb, cb, rfl, sb, hb1⟩
            have TT := Lib.hid (TT.out.below hb1)
            have KK := Lib.hid (KK.out.trans (hb1.mono KK.out.size))
            have SA := Lib.hid (SlT.keep hb1 SA.out)
            have SB := Lib.hid sb
            clear hb1 sb
            go_wp2_with fail
            refine (streq pa pb _ ca cb u2 (by have := HLL.out; unfold maxLen; omega) SA.out SB.out).mono ?_
            rintro e u3 ⟨rfl, hb1⟩
            have TT := Lib.hid (TT.out.below hb1)
            have KK := Lib.hid (KK.out.trans (hb1.mono KK.out.size))
            clear hb1 SA SB
            go_wp2_with fail
            refine (keysp TT.out (by have := HLL.out; omega)).mono ?_
            rintro e u1 ⟨pa, ca, rfl, sa, hb1⟩
            have TT := Lib.hid (TT.out.below hb1)
            have KK := Lib.hid (KK.out.trans (hb1.mono KK.out.size))
            have SA := Lib.hid sa
            clear hb1 sa
            go_wp2_with fail
            refine (keysr TT.out (by have := HLL.out; omega)).mono ?_
            rintro e u2 ⟨pb, cb, rfl, sb, hb1⟩
            have TT := Lib.hid (TT.out.below hb1)
            have KK := Lib.hid (KK.out.trans (hb1.mono KK.out.size))
            have SA := Lib.hid (SlT.keep hb1 SA.out)
            have SB := Lib.hid sb
            clear hb1 sb
            go_wp2_with fail
            refine (streq pa pb _ ca cb u2 (by have := HLL.out; unfold maxLen; omega) SA.out SB.out).mono ?_
            rintro e u3 ⟨rfl, hb1⟩
            have TT := Lib.hid (TT.out.below hb1)
            have KK := Lib.hid (KK.out.trans (hb1.mono KK.out.size))
            clear hb1 SA SB
            go_wp2
            go_roundw
            case rel => exact ⟨j + 1, L9, hits, misses, _, _, by go_num, by omega, KK.out, TT, HLL⟩
            case measure => simp [intOf]; omega
        · have TZ := Lib.hid (show T3 z b d xb w.heap.size bp n (L.map sf) hits misses (j + 1) (L.map pf) hits misses (j + 1) L hits misses va _ from ⟨TZ.out.s.up (Nat.le_succ _), TZ.out.p.up (Nat.le_succ _), TZ.out.r, TZ.out.cx, TZ.out.cv⟩)
          clear a0 a1 a2
          have HLL := Lib.hid (show (((L).length : Int)) ≤ n by exact hL.out)
          have TT := Lib.hid TZ.out
          have KK := Lib.hid (KZ.out)
          obtain ⟨L9, hL9⟩ : ∃ x, L = x := ⟨_, rfl⟩
          rw [hL9] at TT HLL
          clear hL9
          clear TZ KZ
          refine (keyss TT.out (by have := HLL.out; omega)).mono ?_
          rintro e u1 ⟨pa, ca, rfl, sa, hb1⟩
          have TT := Lib.hid (TT.out.below hb1)
          have KK := Lib.hid (KK.out.trans (hb1.mono KK.out.size))
          have SA := Lib.hid sa
          clear hb1 sa
          go_wp2_with fail
          refine (keysr TT.out (by have := HLL.out; omega)).mono ?_
          rintro e u2 ⟨pb, cb, rfl, sb, hb1⟩
          have TT := Lib.hid (TT.out.below hb1)
          have KK := Lib.hid (KK.out.trans (hb1.mono KK.out.size))
          have SA := Lib.hid (SlT.keep hb1 SA.out)
          have SB := Lib.hid sb
          clear hb1 sb
          go_wp2_with fail
          refine (streq pa pb _ ca cb u2 (by have := HLL.out; unfold maxLen; omega) SA.out SB.out).mono ?_
          rintro e u3 ⟨rfl, hb1⟩
          have TT := Lib.hid (TT.out.below hb1)
          have KK := Lib.hid (KK.out.trans (hb1.mono KK.out.size))
          clear hb1 SA SB
          go_wp2_with fail
          refine (keysp TT.out (by have := HLL.out; omega)).mono ?_
          rintro e u1 ⟨pa, ca, rfl, sa, hb1⟩
          have TT := Lib.hid (TT.out.below hb1)
          have KK := Lib.hid (KK.out.trans (hb1.mono KK.out.size))
          have SA := Lib.hid sa
          clear hb1 sa
          go_wp2_with fail
          refine (keysr TT.out (by have := HLL.out; omega)).mono ?_
          rintro e u2 ⟨pb, cb, rfl, sb, hb1⟩
          have TT := Lib.hid (TT.out.below hb1)
          have KK := Lib.hid (KK.out.trans (hb1.mono KK.out.size))
          have SA := Lib.hid (SlT.keep hb1 SA.out)
          have SB := Lib.hid sb
          clear hb1 sb
          go_wp2_with fail
          refine (streq pa pb _ ca cb u2 (by have := HLL.out; unfold maxLen; omega) SA.out SB.out).mono ?_
          rintro e u3 ⟨rfl, hb1⟩
          have TT := Lib.hid (TT.out.below hb1)
          have KK := Lib.hid (KK.out.trans (hb1.mono KK.out.size))
          clear hb1 SA SB
          go_wp2
          go_roundw
          case rel => exact ⟨j + 1, L9, hits, misses, _, _, by go_num, by omega, KK.out, TT, HLL⟩
          case measure => simp [intOf]; omega
      · have j1 : ¬ (j : Int) < l.length := by omega
        go_wp2_with fail
        refine (EX.out _).mono ?_
        rintro e w2 ⟨rfl, hb⟩
        go_wp2
        go_ret
        exact ⟨rfl, hB.trans (hb.mono hB.size)⟩
end Go.Proofs.Ytlmbjipcdhenlaa.Cp

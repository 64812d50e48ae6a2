/- The reference's cache in memory; Remove, Get, Put. -/
import Derived.Test.YtlmbjipcdhenlaaC13i
namespace Go.Proofs.Ytlmbjipcdhenlaa.Ci
open Go.ChangeShapes Go.WideShapes Go.ChangeAt Go.RowKit
open Go.Proofs.Ytlmbjipcdhenlaa.Ca
set_option linter.unusedVariables false
set_option linter.unusedSimpArgs false
theorem rml_snoc (L : List Mo) (x : Mo) (s : ByteArray) : rml (L ++ [x]) s = rml L s ++ (if x.1 = s then [] else [x]) := by
  unfold rml
  rw [List.filter_append]
  by_cases h : x.1 = s <;> simp [h]
theorem LW.trans {xb B : Nat} {most : Int} {L1 L2 : List Mo} {h1 m1 h2 m2 : Nat} {va va1 : Value} {w w1 w2 : World} (hg : w.grownBy w1 (some xb)) (hv : ∀ k, va1.ownBlock = some k → va.ownBlock = some k ∨ w.heap.size ≤ k) (h : LW xb B most L2 h2 m2 va1 w1 w2) : LW xb B most L2 h2 m2 va w w2 := by
  obtain ⟨g, va2, R, hn⟩ := h
  refine ⟨grown_trans hg g, va2, R, fun k hk => ?_⟩
  rcases hn k hk with h | h
  · exact hv k h
  · exact .inr (Nat.le_trans hg.size h)
theorem RX.hit {w : World} {xb B : Nat} {most : Int} {L : List Mo} {hits misses : Nat} {va : Value} (R : RX w xb B most L hits misses va) : RX (w.setCell ⟨xb, 1, none⟩ (.int .i64 ((hits + 1 : Nat) : Int))) xb B most L (hits + 1) misses va :=
  ⟨(World.cell?_setCell_other _ _ _ _ (by intro e; cases e)).trans R.m, World.cell?_setCell_same _ _ _ R.h, (World.cell?_setCell_other _ _ _ _ (by intro e; cases e)).trans R.s, (World.cell?_setCell_other _ _ _ _ (by intro e; cases e)).trans R.a, (fz_set _ _ _ _).trans R.z1, (fz_set _ _ _ _).trans R.z2, (fz_set _ _ _ _).trans R.z3, R.row.kept (grown_cell _ _ _ _) (by have h := R.nx; cases h2 : va.ownBlock with | none => exact .inl rfl | some q => rw [h2] at h; exact .inr h), R.nx, R.lo⟩
theorem RX.miss {w : World} {xb B : Nat} {most : Int} {L : List Mo} {hits misses : Nat} {va : Value} (R : RX w xb B most L hits misses va) : RX (w.setCell ⟨xb, 2, none⟩ (.int .i64 ((misses + 1 : Nat) : Int))) xb B most L hits (misses + 1) va :=
  ⟨(World.cell?_setCell_other _ _ _ _ (by intro e; cases e)).trans R.m, (World.cell?_setCell_other _ _ _ _ (by intro e; cases e)).trans R.h, World.cell?_setCell_same _ _ _ R.s, (World.cell?_setCell_other _ _ _ _ (by intro e; cases e)).trans R.a, (fz_set _ _ _ _).trans R.z1, (fz_set _ _ _ _).trans R.z2, (fz_set _ _ _ _).trans R.z3, R.row.kept (grown_cell _ _ _ _) (by have h := R.nx; cases h2 : va.ownBlock with | none => exact .inl rfl | some q => rw [h2] at h; exact .inr h), R.nx, R.lo⟩
def RRW (xb B : Nat) (most : Int) (L : List Mo) (hits misses : Nat) (va : Value) (s : ByteArray) (w : World) (e : Ending) (w' : World) : Prop := e = .returned (.bool (lkv L s).isSome) ∧ LW xb B most (rml L s) hits misses va w w'
set_option maxRecDepth 100000 in
set_option maxHeartbeats 8000000 in
theorem rremove1 (xb B : Nat) (most : Int) (L : List Mo) (hits misses : Nat) (va : Value) (s : ByteArray) (w : World) (R : Hid (RX w xb B most L hits misses va)) (hn : L.length ≤ 2000) (hnd : (L.map (·.1)).Nodup) : Calls Try.prog 21 #[.pointer (some ⟨xb, 0, none⟩), .string s] w (RRW xb B most L hits misses va s w) := by
  have CF := Lib.hid (find1 xb B most L hits misses va s w R hn)
  have hxb := lt_cell R.out.m
  have HND := Lib.hid hnd
  clear hnd
  by_cases hin : s ∈ L.map (·.1)
  · obtain ⟨p, c, rfl, hc, hcm, hS⟩ := row_any R.out.row
    obtain ⟨i0, hi, hz0, hz1, hz2⟩ := info_parts infoEn
    have ca := R.out.a
    have z3 := R.out.z3
    have HS := Lib.hid hS
    have HIN := Lib.hid hin
    have hBx := R.out.lo
    clear hS hin
    go_enter Try.func21, Try.ntmps21
    go_wp2_with fail
    refine CF.out.mono ?_
    rintro e w1 ⟨rfl, ⟨h, _⟩ | ⟨ix, vx, hix, rfl⟩⟩
    · exact absurd HIN.out h
    have HIX := Lib.hid hix
    have hi0 : (0 : Int) ≤ ix := by omega
    have hi1 : ¬ (ix : Int) < 0 := by omega
    clear hix
    go_wp2_with fail
    go_loopw [6, 7] (fun lv i wr => ∃ j : Nat, i = .int .i64 (j : Int) ∧ j ≤ L.length ∧ Below w.heap.size w wr ∧ Hid (wr.ownsRow w.heap.size 87 2 lv (rml (L.take j) s).length (moCs (rml (L.take j) s)))) (fun _ i _ => L.length - (intOf i).toNat)
    case atStart => exact ⟨0, rfl, by omega, Below.refl _ _, Lib.hid (World.ownsRow_nil _ _ _ _)⟩
    case round =>
      obtain ⟨j, rfl, hj, hB, hO⟩ := hrel
      have j0 : (0 : Int) ≤ j := by omega
      have ca2 := kpc hB hxb ca
      by_cases hlt : j < L.length
      · obtain ⟨b, o, rfl, c0, c1⟩ := SlM.keep hB HS.out j hlt
        have hx : L[j]? = some L[j] := List.getElem?_eq_getElem hlt
        have htk := List.take_succ_eq_append_getElem hlt
        rw [show L.getD j mo0 = L[j] by unfold List.getD; rw [hx]; rfl] at c0 c1
        obtain ⟨⟨k, v⟩, hv⟩ : ∃ x, L[j] = x := ⟨_, rfl⟩
        rw [hv] at c0 c1 hx htk
        simp only at c0 c1
        have HX := Lib.hid hx
        have HTK := Lib.hid htk
        have j1 : (j : Int) < L.length := by omega
        have hjl := HTK.out
        clear hx htk hv hjl
        by_cases hji : j = ix
        · subst hji
          have hks : k = s := by have h := HIX.out; rw [HX.out] at h; cases h; rfl
          have HR := Lib.hid (show rml (L.take (j + 1)) s = rml (L.take j) s by rw [HTK.out, rml_snoc, if_pos hks, List.append_nil])
          clear hks
          go_wp2
          go_roundw
          case rel => exact ⟨j + 1, by go_num, by omega, hB, by rw [HR.out]; exact hO⟩
          case measure => simp [intOf]; omega
        · have hb0 : ((j : Int) == (ix : Int)) = false := beq_false_of_ne (by omega)
          have hb1 : ((j : Int) != (ix : Int)) = true := by rw [bne, hb0]; rfl
          have hks : k ≠ s := fun e => by
            subst e
            have h1 : (L.map (·.1))[j]? = some k := by rw [List.getElem?_map, HX.out]; rfl
            have h2 : (L.map (·.1))[ix]? = some k := by rw [List.getElem?_map, HIX.out]; rfl
            exact hji ((List.getElem?_inj (by simpa using hlt) HND.out).1 (h1.trans h2.symm))
          have HR := Lib.hid (show rml (L.take (j + 1)) s = rml (L.take j) s ++ [(k, v)] by rw [HTK.out, rml_snoc, if_neg hks])
          have HLL := Lib.hid (show (rml (L.take j) s).length ≤ 2000 from Nat.le_trans (rml_len _ _) (by rw [List.length_take]; omega))
          have BA := (Below.refl wr.heap.size wr).alloc (Nat.le_refl _) (Obj.cells #[Value.string k, Value.int .i64 v] 87)
          have KA := hB.trans (BA.mono hB.size)
          have OA := Lib.hid (hO.out.alloc (Obj.cells #[Value.string k, Value.int .i64 v] 87))
          have a0 : (wr.alloc (Obj.cells #[Value.string k, Value.int .i64 v] 87)).cell? ⟨wr.heap.size, 0, none⟩ = some (.string k) := by go_cell
          have a1 : (wr.alloc (Obj.cells #[Value.string k, Value.int .i64 v] 87)).cell? ⟨wr.heap.size, 1, none⟩ = some (.int .i64 v) := by go_cell
          have hks2 := KA.size
          clear hks hji BA hO
          go_wp2_with (at_builtin; refine wpList_append_own _ rfl _ _ 28 rfl w.heap.size 87 i0 (.agg #[.string ⟨#[]⟩, .int .i64 0]) 2 24 Try.underlying28 hi hz0 hz1 hz2 rfl (by decide) _ _ _ rfl OA.out ⟨wr.heap.size, 0, none⟩ 1 1 [.string k, .int .i64 v] rfl rfl ?_ ?_ ?_ ?_ ?_ ?_)
          · intro q' x' hx'
            rcases q' with _ | _ | q'
            · cases hx'; exact a0
            · cases hx'; exact a1
            · simp at hx'
          · intro x' hx'
            simp at hx'
            rcases hx' with rfl | rfl <;> rfl
          · have := HLL.out; unfold maxLen; omega
          · have := HLL.out; omega
          · exact hks2
          intro v' w5 hown' hgrow _
          have K5 := KA.grown hgrow KA.size (fun q' hq' => (OA.out.lt q' hq').1)
          have hown2 : Hid (w5.ownsRow w.heap.size 87 2 v' (rml (L.take (j + 1)) s).length (moCs (rml (L.take (j + 1)) s))) := Lib.hid (by
            rw [HR.out, List.length_append, moCs_snoc]
            exact hown')
          obtain ⟨q', c', rfl⟩ := own_slice hown2.out
          clear hown' hgrow OA a0 a1 KA
          go_wp2
          go_roundw
          case rel => exact ⟨j + 1, by go_num, by omega, K5, hown2⟩
          case measure => simp [intOf]; omega
      · have j1 : ¬ (j : Int) < L.length := by omega
        obtain rfl : j = L.length := by omega
        have hO2 := hO.out
        rw [List.take_length] at hO2
        obtain ⟨q', c', rfl⟩ := own_slice hO2
        have hz3 : wr.frozen? ⟨xb, 3, none⟩ = false := (hB.frozen (p := ⟨xb, 3, none⟩) hxb).trans z3
        have hg : w.grownBy wr none := ⟨hB.os, hB.tape, hB.output, hB.size, fun q hq _ => hB.block q hq⟩
        have hlt := hO2.lt
        have HF := Lib.hid (show LW xb B most (rml L s) hits misses (.slice p L.length c) w (wr.setCell ⟨xb, 3, none⟩ (.slice q' (rml L s).length c')) from ⟨grown_trans ⟨hB.os, hB.tape, hB.output, hB.size, fun q hq _ => hB.block q hq⟩ (grown_cell _ _ _ _), _, R.out.all hg (hO2.mono (by omega)) (fun e => by have := (hlt _ e).1; omega), fun q hq => .inr (hlt q hq).1⟩)
        have HT := Lib.hid (show (lkv L s).isSome = true by
          cases h : lkv L s with
          | none => exact absurd HIN.out (lkv_none.1 h)
          | some _ => rfl)
        clear hO hO2 hg hlt hi hz0 hz1 hz2
        go_wp2
        go_ret
        exact ⟨ret_bool HT.out.symm, HF.out⟩
  · have HIN := Lib.hid hin
    have HF := Lib.hid (show LW xb B most (rml L s) hits misses va w w from ⟨grown_refl _ _, va, by rw [rml_none hin]; exact R.out, fun q hq => .inl hq⟩)
    have HT := Lib.hid (show (lkv L s).isSome = false by rw [lkv_none.2 hin]; rfl)
    clear hin
    go_enter Try.func21, Try.ntmps21
    go_wp2_with fail
    refine CF.out.mono ?_
    rintro e w1 ⟨rfl, ⟨_, rfl⟩ | ⟨ix, vx, hix, _⟩⟩
    · go_wp2
      go_ret
      exact ⟨ret_bool HT.out.symm, HF.out⟩
    · exact absurd (List.mem_map_of_mem (f := (·.1)) (List.mem_of_getElem? hix)) HIN.out
def GRW (xb B : Nat) (most : Int) (L : List Mo) (hits misses : Nat) (va : Value) (s : ByteArray) (w : World) (e : Ending) (w' : World) : Prop :=
  (lkv L s = none ∧ e = .returned (.tuple #[.int .i64 0, .bool false]) ∧ LW xb B most L hits (misses + 1) va w w') ∨ ∃ v, lkv L s = some v ∧ e = .returned (.tuple #[.int .i64 v, .bool true]) ∧ LW xb B most ((s, v) :: rml L s) (hits + 1) misses va w w'
set_option maxRecDepth 100000 in
set_option maxHeartbeats 8000000 in
theorem rget1 (xb B : Nat) (most : Int) (L : List Mo) (hits misses : Nat) (va : Value) (s : ByteArray) (w : World) (R : Hid (RX w xb B most L hits misses va)) (hn : L.length ≤ 1000) (hnd : (L.map (·.1)).Nodup) (hh : hits ≤ 1000) (hm : misses ≤ 1000) : Calls Try.prog 17 #[.pointer (some ⟨xb, 0, none⟩), .string s] w (GRW xb B most L hits misses va s w) := by
  have CF := Lib.hid (find1 xb B most L hits misses va s w R (by omega))
  have hxb := lt_cell R.out.m
  have HND := Lib.hid hnd
  clear hnd
  by_cases hin : s ∈ L.map (·.1)
  · have HIN := Lib.hid hin
    have c1 := R.out.h
    have z1 := R.out.z1
    have HN := Lib.hid (show ((hits : Int) + 1) = ((hits + 1 : Nat) : Int) by simp)
    have RH := R.out.hit
    obtain ⟨p, c, rfl, hc, hcm, hS⟩ := row_any RH.row
    have c3 := RH.a
    have HS := Lib.hid hS
    have CR := Lib.hid fun u (hu : Below (w.setCell ⟨xb, 1, none⟩ (.int .i64 ((hits + 1 : Nat) : Int))).heap.size (w.setCell ⟨xb, 1, none⟩ (.int .i64 ((hits + 1 : Nat) : Int))) u) => rremove1 xb B most L (hits + 1) misses _ s u (Lib.hid (RH.below hu)) (by omega) HND.out
    have HG := Lib.hid (grown_cell w xb 1 (.int .i64 ((hits + 1 : Nat) : Int)))
    clear hin hS RH
    go_enter Try.func17, Try.ntmps17
    go_wp2_with fail
    refine CF.out.mono ?_
    rintro e w1 ⟨rfl, ⟨h, _⟩ | ⟨ix, vx, hix, rfl⟩⟩
    · exact absurd HIN.out h
    have hlt := lt_of hix
    obtain ⟨b, o, rfl, a0, a1⟩ := HS.out ix hlt
    rw [show L.getD ix mo0 = (s, vx) by unfold List.getD; rw [hix]; rfl] at a0 a1
    simp only at a0 a1
    have HLK := Lib.hid (lkv_at HND.out (List.mem_of_getElem? hix))
    have hi0 : (0 : Int) ≤ ix := by omega
    have hi1 : ¬ (ix : Int) < 0 := by omega
    have hi2 : (ix : Int) < L.length := by omega
    clear hix
    obtain ⟨w2, hw2⟩ : ∃ u, w.setCell ⟨xb, 1, none⟩ (.int .i64 ((hits + 1 : Nat) : Int)) = u := ⟨_, rfl⟩
    have BA := (Below.refl w2.heap.size w2).alloc (Nat.le_refl _) (Obj.cells #[Value.string s, Value.int .i64 vx] 87)
    have e0 : (w2.alloc (Obj.cells #[Value.string s, Value.int .i64 vx] 87)).cell? ⟨w2.heap.size, 0, none⟩ = some (.string s) := by go_cell
    have e1 : (w2.alloc (Obj.cells #[Value.string s, Value.int .i64 vx] 87)).cell? ⟨w2.heap.size, 1, none⟩ = some (.int .i64 vx) := by go_cell
    have hs2 : xb < w2.heap.size := by rw [← hw2]; simpa using hxb
    subst hw2
    have CR2 := Lib.hid (CR.out _ BA)
    have HBA := Lib.hid BA
    clear CR BA
    rw [← HN.out] at c3 a0 a1 CR2 HBA e0 e1 HG
    go_wp2_with fail
    refine CR2.out.mono ?_
    rintro e w3 ⟨rfl, hLW⟩
    obtain ⟨g3, va3, R3, hv3⟩ := hLW
    have hsz : (w.setCell ⟨xb, 1, none⟩ (.int .i64 ((hits : Int) + 1))).heap.size = w.heap.size := by simp
    have f0 := g3.cell e0 (by rw [hsz]; simp; omega)
    have f1 := g3.cell e1 (by rw [hsz]; simp; omega)
    rw [hsz] at f0 f1
    have hrl := rml_len L s
    have C1 := Lib.hid (first1 xb B most (rml L s) (hits + 1) misses va3 s vx w3 (Lib.hid R3) (by omega))
    have HLW := Lib.hid (show w.grownBy w3 (some xb) ∧ ∀ k, va3.ownBlock = some k → (Value.slice (some ⟨b, o, none⟩) L.length c).ownBlock = some k ∨ w.heap.size ≤ k from ⟨grown_trans HG.out (grown_trans ⟨HBA.out.os, HBA.out.tape, HBA.out.output, HBA.out.size, fun q hq _ => HBA.out.block q hq⟩ g3), fun k hk => by
      rcases hv3 k hk with h | h
      · exact .inl h
      · exact .inr (by have := HBA.out.size; rw [hsz] at this; omega)⟩)
    have hne : ¬ w.heap.size = xb := by omega
    clear hsz
    clear e0 e1 R3 hv3 g3
    go_wp2_with fail
    refine C1.out.mono ?_
    rintro e w4 ⟨rfl, hL4⟩
    have h1 := hL4.1.cell f1 (by simp; omega)
    have HF := Lib.hid (LW.trans (L1 := rml L s) (h1 := hits) (m1 := misses) HLW.out.1 HLW.out.2 hL4)
    clear hL4 f0 f1
    go_wp2
    go_ret2
    exact .inr ⟨vx, HLK.out, rfl, HF.out⟩
  · have HIN := Lib.hid hin
    have c2 := R.out.s
    have z2 := R.out.z2
    have HN := Lib.hid (show ((misses : Int) + 1) = ((misses + 1 : Nat) : Int) by simp)
    have HF := Lib.hid (show LW xb B most L hits (misses + 1) va w (w.setCell ⟨xb, 2, none⟩ (.int .i64 ((misses + 1 : Nat) : Int))) from ⟨grown_cell _ _ _ _, va, R.out.miss, fun q hq => .inl hq⟩)
    clear hin
    go_enter Try.func17, Try.ntmps17
    go_wp2_with fail
    refine CF.out.mono ?_
    rintro e w1 ⟨rfl, ⟨_, rfl⟩ | ⟨ix, vx, hix, _⟩⟩
    · go_wp2
      go_ret2
      rw [HN.out]
      exact .inl ⟨lkv_none.2 HIN.out, rfl, HF.out⟩
    · exact absurd (List.mem_map_of_mem (f := (·.1)) (List.mem_of_getElem? hix)) HIN.out
def PRW (xb B : Nat) (most : Int) (L : List Mo) (hits misses : Nat) (va : Value) (s : ByteArray) (v : Int) (w : World) (e : Ending) (w' : World) : Prop :=
  (((rml L s).length : Int) + 1 ≤ most ∧ e = .returned (.bool false) ∧ LW xb B most ((s, v) :: rml L s) hits misses va w w') ∨ (most < ((rml L s).length : Int) + 1 ∧ e = .returned (.bool true) ∧ LW xb B most ((s, v) :: rml L s).dropLast hits misses va w w')
set_option maxRecDepth 100000 in
set_option maxHeartbeats 8000000 in
theorem rput1 (xb B : Nat) (most : Int) (L : List Mo) (hits misses : Nat) (va : Value) (s : ByteArray) (v : Int) (w : World) (R : Hid (RX w xb B most L hits misses va)) (hn : (L.length : Int) ≤ most) (hm : most ≤ 1024) (hm1 : 1 ≤ most) (hnd : (L.map (·.1)).Nodup) : Calls Try.prog 19 #[.pointer (some ⟨xb, 0, none⟩), .string s, .int .i64 v] w (PRW xb B most L hits misses va s v w) := by
  have CR := Lib.hid (rremove1 xb B most L hits misses va s w R (by omega) hnd)
  have hrl := rml_len L s
  clear hnd
  go_enter Try.func19, Try.ntmps19
  go_wp2_with fail
  refine CR.out.mono ?_
  rintro e w1 ⟨rfl, hL1⟩
  obtain ⟨g1, va1, R1, hv1⟩ := hL1
  have C1 := Lib.hid (first1 xb B most (rml L s) hits misses va1 s v w1 (Lib.hid R1) (by omega))
  have H1 := Lib.hid (show w.grownBy w1 (some xb) ∧ ∀ k, va1.ownBlock = some k → va.ownBlock = some k ∨ w.heap.size ≤ k from ⟨g1, hv1⟩)
  clear g1 R1 hv1 CR
  go_wp2_with fail
  refine C1.out.mono ?_
  rintro e w2 ⟨rfl, hL2⟩
  have hL3 := LW.trans (L1 := rml L s) (h1 := hits) (m1 := misses) H1.out.1 H1.out.2 hL2
  obtain ⟨g2, va2, R2, hv2⟩ := hL3
  have HR2 := Lib.hid R2
  have HG2 := Lib.hid g2
  have HV2 := Lib.hid hv2
  obtain ⟨q5, c5, rfl⟩ := own_slice R2.row
  have hcap : ((s, v) :: rml L s).length ≤ c5 := by
    obtain ⟨p', c', e', h, _⟩ := row_any R2.row
    cases e'
    exact h
  have a0 := R2.m
  have a3 := R2.a
  have z3 := R2.z3
  obtain ⟨n5, hn5⟩ : ∃ n5, ((s, v) :: rml L s).length = n5 := ⟨_, rfl⟩
  rw [hn5] at a3 hcap
  have HN5 := Lib.hid hn5
  have hn6 : n5 = (rml L s).length + 1 := by rw [← hn5]; rfl
  have hn7 : (n5 : Int) ≤ most + 1 := by omega
  clear R2 g2 hv2 hL2 hn5 C1
  go_wp2_with fail
  have hz9 : w2.drew.cell? ⟨xb, 0, none⟩ = some (.int .i64 most) ∧ w2.drew.cell? ⟨xb, 3, none⟩ = some (.slice q5 n5 c5) := ⟨a0, a3⟩
  refine Rk.begin (S := fun wS => wS.cell? ⟨xb, 0, none⟩ = some (.int .i64 most) ∧ wS.cell? ⟨xb, 3, none⟩ = some (.slice q5 n5 c5)) 9 (by kernel_rfl) hz9 (fun hHeld => ?_)
  refine Rk.takeP (i := 0) (v := ?_) rfl (by kernel_rfl) (by kernel_rfl) (by kernel_rfl) (by kernel_rfl) (fun _ _ _ h => h) (Or.inl ⟨by kernel_rfl, ?_⟩) (by assumption) ?_
  rotate_left
  · ((intro w hSw; go_simp) <;> with_reducible rfl)
  try simp only [Act.put, List.setIfInBounds_toArray, List.set_cons_zero, List.set_cons_succ]
  refine Rk.takeP (i := 1) (v := ?_) rfl (by kernel_rfl) (by kernel_rfl) (by kernel_rfl) (by kernel_rfl) (fun _ _ _ h => h) (Or.inl ⟨by kernel_rfl, ?_⟩) (by assumption) ?_
  rotate_left
  · ((intro w hSw; go_simp) <;> with_reducible rfl)
  try simp only [Act.put, List.setIfInBounds_toArray, List.set_cons_zero, List.set_cons_succ]
  refine Rk.takeP (i := 2) (v := ?_) rfl (by kernel_rfl) (by kernel_rfl) (by kernel_rfl) (by kernel_rfl) (fun _ _ _ h => h) (Or.inl ⟨by kernel_rfl, ?_⟩) (by assumption) ?_
  rotate_left
  · ((intro w hSw; go_simp) <;> with_reducible rfl)
  try simp only [Act.put, List.setIfInBounds_toArray, List.set_cons_zero, List.set_cons_succ]
  refine Rk.take [4, 9] (i := 3) (v := ?_) rfl (by kernel_rfl) (by kernel_rfl) (by kernel_rfl) (by kernel_rfl) (by kernel_rfl) (fun _ _ _ h => h) (Or.inl ⟨by kernel_rfl, ?_⟩) (by assumption) ?_
  rotate_left
  · ((intro w hSw; (try dsimp only at hSw); go_simp) <;> with_reducible rfl)
  try simp only [Act.put, List.setIfInBounds_toArray, List.set_cons_zero, List.set_cons_succ]
  refine Rk.takeP (i := 4) (v := ?_) rfl (by kernel_rfl) (by kernel_rfl) (by kernel_rfl) (by kernel_rfl) (fun _ _ _ h => h) (Or.inl ⟨by kernel_rfl, ?_⟩) (by assumption) ?_
  rotate_left
  · ((intro w hSw; go_simp) <;> with_reducible rfl)
  try simp only [Act.put, List.setIfInBounds_toArray, List.set_cons_zero, List.set_cons_succ]
  refine Rk.takeP (i := 5) (v := ?_) rfl (by kernel_rfl) (by kernel_rfl) (by kernel_rfl) (by kernel_rfl) (fun _ _ _ h => h) (Or.inl ⟨by kernel_rfl, ?_⟩) (by assumption) ?_
  rotate_left
  · ((intro w hSw; go_simp) <;> with_reducible rfl)
  try simp only [Act.put, List.setIfInBounds_toArray, List.set_cons_zero, List.set_cons_succ]
  refine Rk.takeP (i := 6) (v := ?_) rfl (by kernel_rfl) (by kernel_rfl) (by kernel_rfl) (by kernel_rfl) (fun _ _ _ h => h) (Or.inl ⟨by kernel_rfl, ?_⟩) (by assumption) ?_
  rotate_left
  · ((intro w hSw; go_simp) <;> with_reducible rfl)
  try simp only [Act.put, List.setIfInBounds_toArray, List.set_cons_zero, List.set_cons_succ]
  refine Rk.takeP (i := 7) (v := ?_) rfl (by kernel_rfl) (by kernel_rfl) (by kernel_rfl) (by kernel_rfl) (fun _ _ _ h => h) (Or.inl ⟨by kernel_rfl, ?_⟩) (by assumption) ?_
  rotate_left
  · ((intro w hSw; go_simp) <;> with_reducible rfl)
  try simp only [Act.put, List.setIfInBounds_toArray, List.set_cons_zero, List.set_cons_succ]
  refine Rk.take [9] (i := 8) (v := ?_) rfl (by kernel_rfl) (by kernel_rfl) (by kernel_rfl) (by kernel_rfl) (by kernel_rfl) (fun _ _ _ h => h) (Or.inl ⟨by kernel_rfl, ?_⟩) (by assumption) ?_
  rotate_left
  · ((intro w hSw; (try dsimp only at hSw); go_simp) <;> with_reducible rfl)
  try simp only [Act.put, List.setIfInBounds_toArray, List.set_cons_zero, List.set_cons_succ]
  refine Rk.tail [9] [_] (by kernel_rfl) (by kernel_rfl) rfl (by decide) ?_
  clear hHeld hz9
  by_cases hle : most < (n5 : Int)
  · have hd : decide (most < (n5 : Int)) = true := decide_eq_true hle
    obtain ⟨mN, hmN⟩ : ∃ k : Nat, most = (k : Int) := ⟨most.toNat, by omega⟩
    have hmc : mN ≤ c5 := by omega
    have hmc2 : (mN : Int) ≤ c5 := by omega
    have hm0 : (0 : Int) ≤ mN := by omega
    have hnm : n5 = mN + 1 := by omega
    subst hmN
    have HE := Lib.hid (show (((mN : Nat) : Int) < ((rml L s).length : Int) + 1) by omega)
    have b0 : w2.drew.cell? ⟨xb, 0, none⟩ = some (.int .i64 (mN : Int)) := a0
    have b3 : w2.drew.cell? ⟨xb, 3, none⟩ = some (.slice q5 n5 c5) := a3
    have y3 : w2.drew.frozen? ⟨xb, 3, none⟩ = false := z3
    go_wp2_with fail
    have hz8 : w2.drew.drew.cell? ⟨xb, 0, none⟩ = some (.int .i64 (mN : Int)) ∧ w2.drew.drew.cell? ⟨xb, 3, none⟩ = some (.slice q5 n5 c5) := ⟨b0, b3⟩
    refine Rk.begin (S := fun wS => wS.cell? ⟨xb, 0, none⟩ = some (.int .i64 (mN : Int)) ∧ wS.cell? ⟨xb, 3, none⟩ = some (.slice q5 n5 c5)) 12 (by kernel_rfl) hz8 (fun hHeld => ?_)
    refine Rk.takeP (i := 0) (v := ?_) rfl (by kernel_rfl) (by kernel_rfl) (by kernel_rfl) (by kernel_rfl) (fun _ _ _ h => h) (Or.inl ⟨by kernel_rfl, ?_⟩) (by assumption) ?_
    rotate_left
    · ((intro w hSw; go_simp) <;> with_reducible rfl)
    try simp only [Act.put, List.setIfInBounds_toArray, List.set_cons_zero, List.set_cons_succ]
    refine Rk.takeP (i := 1) (v := ?_) rfl (by kernel_rfl) (by kernel_rfl) (by kernel_rfl) (by kernel_rfl) (fun _ _ _ h => h) (Or.inl ⟨by kernel_rfl, ?_⟩) (by assumption) ?_
    rotate_left
    · ((intro w hSw; go_simp) <;> with_reducible rfl)
    try simp only [Act.put, List.setIfInBounds_toArray, List.set_cons_zero, List.set_cons_succ]
    refine Rk.takeP (i := 2) (v := ?_) rfl (by kernel_rfl) (by kernel_rfl) (by kernel_rfl) (by kernel_rfl) (fun _ _ _ h => h) (Or.inl ⟨by kernel_rfl, ?_⟩) (by assumption) ?_
    rotate_left
    · ((intro w hSw; go_simp) <;> with_reducible rfl)
    try simp only [Act.put, List.setIfInBounds_toArray, List.set_cons_zero, List.set_cons_succ]
    refine Rk.takeP (i := 3) (v := ?_) rfl (by kernel_rfl) (by kernel_rfl) (by kernel_rfl) (by kernel_rfl) (fun _ _ _ h => h) (Or.inl ⟨by kernel_rfl, ?_⟩) (by assumption) ?_
    rotate_left
    · ((intro w hSw; go_simp) <;> with_reducible rfl)
    try simp only [Act.put, List.setIfInBounds_toArray, List.set_cons_zero, List.set_cons_succ]
    refine Rk.take [12] (i := 4) (v := ?_) rfl (by kernel_rfl) (by kernel_rfl) (by kernel_rfl) (by kernel_rfl) (by kernel_rfl) (fun _ _ _ h => h) (Or.inl ⟨by kernel_rfl, ?_⟩) (by assumption) ?_
    rotate_left
    · ((intro w hSw; (try dsimp only at hSw); go_simp) <;> with_reducible rfl)
    try simp only [Act.put, List.setIfInBounds_toArray, List.set_cons_zero, List.set_cons_succ]
    refine Rk.takeP (i := 5) (v := ?_) rfl (by kernel_rfl) (by kernel_rfl) (by kernel_rfl) (by kernel_rfl) (fun _ _ _ h => h) (Or.inl ⟨by kernel_rfl, ?_⟩) (by assumption) ?_
    rotate_left
    · ((intro w hSw; go_simp) <;> with_reducible rfl)
    try simp only [Act.put, List.setIfInBounds_toArray, List.set_cons_zero, List.set_cons_succ]
    refine Rk.takeP (i := 6) (v := ?_) rfl (by kernel_rfl) (by kernel_rfl) (by kernel_rfl) (by kernel_rfl) (fun _ _ _ h => h) (Or.inl ⟨by kernel_rfl, ?_⟩) (by assumption) ?_
    rotate_left
    · ((intro w hSw; go_simp) <;> with_reducible rfl)
    try simp only [Act.put, List.setIfInBounds_toArray, List.set_cons_zero, List.set_cons_succ]
    refine Rk.takeP (i := 7) (v := ?_) rfl (by kernel_rfl) (by kernel_rfl) (by kernel_rfl) (by kernel_rfl) (fun _ _ _ h => h) (Or.inl ⟨by kernel_rfl, ?_⟩) (by assumption) ?_
    rotate_left
    · ((intro w hSw; go_simp) <;> with_reducible rfl)
    try simp only [Act.put, List.setIfInBounds_toArray, List.set_cons_zero, List.set_cons_succ]
    refine Rk.take [12] (i := 8) (v := ?_) rfl (by kernel_rfl) (by kernel_rfl) (by kernel_rfl) (by kernel_rfl) (by kernel_rfl) (fun _ _ _ h => h) (Or.inl ⟨by kernel_rfl, ?_⟩) (by assumption) ?_
    rotate_left
    · ((intro w hSw; (try dsimp only at hSw); go_simp) <;> with_reducible rfl)
    try simp only [Act.put, List.setIfInBounds_toArray, List.set_cons_zero, List.set_cons_succ]
    refine Rk.takeP (i := 9) (v := ?_) rfl (by kernel_rfl) (by kernel_rfl) (by kernel_rfl) (by kernel_rfl) (fun _ _ _ h => h) (Or.inl ⟨by kernel_rfl, ?_⟩) (by assumption) ?_
    rotate_left
    · ((intro w hSw; go_simp) <;> with_reducible rfl)
    try simp only [Act.put, List.setIfInBounds_toArray, List.set_cons_zero, List.set_cons_succ]
    refine Rk.takeP (i := 10) (v := ?_) rfl (by kernel_rfl) (by kernel_rfl) (by kernel_rfl) (by kernel_rfl) (fun _ _ _ h => h) (Or.inl ⟨by kernel_rfl, ?_⟩) (by assumption) ?_
    rotate_left
    · ((intro w hSw; go_simp) <;> with_reducible rfl)
    try simp only [Act.put, List.setIfInBounds_toArray, List.set_cons_zero, List.set_cons_succ]
    refine Rk.takeP (i := 11) (v := ?_) rfl (by kernel_rfl) (by kernel_rfl) (by kernel_rfl) (by kernel_rfl) (fun _ _ _ h => h) (Or.inl ⟨by kernel_rfl, ?_⟩) (by assumption) ?_
    rotate_left
    · ((intro w hSw; go_simp) <;> with_reducible rfl)
    try simp only [Act.put, List.setIfInBounds_toArray, List.set_cons_zero, List.set_cons_succ]
    refine Rk.tail [12] [_] (by kernel_rfl) (by kernel_rfl) rfl (by decide) ?_
    clear hHeld hz8
    go_wp2
    go_ret
    have G9 := grown_cell w2 xb 3 (.slice q5 mN c5)
    refine .inr ⟨HE.out, rfl, grown_trans HG2.out ⟨G9.os, G9.tape, G9.output, G9.size, G9.block⟩, .slice q5 mN c5, ?_, ?_⟩
    · have hrow := HR2.out.row
      rw [HN5.out] at hrow
      have hg : w2.grownBy w2 none := ⟨rfl, rfl, rfl, Nat.le_refl _, fun _ _ _ => rfl⟩
      have hlen : (((s, v) :: rml L s).dropLast).length = mN := by rw [List.length_dropLast, HN5.out]; omega
      refine RX.below (HR2.out.all hg ?_ (by have h := HR2.out.nx; intro e; apply h; rw [← e]; cases q5 <;> rfl)) (((Below.refl _ _).drew).drew)
      rw [hlen]
      have hq : ∃ g, q5 = some ⟨g, 0, none⟩ := by
        rcases hrow.2 with ⟨e, h0⟩ | ⟨g, cap, cur, e, _⟩
        · omega
        · cases e; exact ⟨g, rfl⟩
      obtain ⟨g, rfl⟩ := hq
      have h := own_prefix hrow (i := mN) (by omega)
      rw [moCs_take] at h
      rw [List.dropLast_eq_take, HN5.out, show n5 - 1 = mN by omega]
      exact h
    · intro k hk
      refine HV2.out k ?_
      rw [← hk]
      cases q5 <;> rfl
  · have hd : decide (most < (n5 : Int)) = false := decide_eq_false hle
    have HE := Lib.hid (show ((rml L s).length : Int) + 1 ≤ most by omega)
    go_wp2
    go_ret
    exact .inl ⟨HE.out, rfl, ⟨HG2.out.os, HG2.out.tape, HG2.out.output, HG2.out.size, HG2.out.block⟩, _, HR2.out.below ((Below.refl _ _).drew), HV2.out⟩
end Go.Proofs.Ytlmbjipcdhenlaa.Ci

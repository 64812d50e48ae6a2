/- fit. -/
import Derived.Test.YtghnigmmkenddaaM7
import Derived.Deep.Cut
import Derived.Deep.Onto
namespace Go.Proofs.Ytghnigmmkenddaa.Ar
open Go.ChangeShapes Go.WideShapes Go.ChangeAt Go.RowKit
open Go.Proofs.Ytghnigmmkenddaa.Lv Go.Proofs.Ytghnigmmkenddaa.Nm
set_option linter.unusedVariables false
set_option linter.unusedSimpArgs false

def ngk (k n : Nat) : List Int := (List.range n).map fun i => if i < k then -1 else 0
theorem ngk_len (k n : Nat) : (ngk k n).length = n := by simp [ngk]
theorem ngk_zero (n : Nat) : ngk 0 n = List.replicate n 0 := by
  refine List.ext_getElem (by simp [ngk]) fun i h1 h2 => by simp [ngk]
theorem ngk_all (n : Nat) : ngk n n = neg1 n := by
  refine List.ext_getElem (by simp [ngk, neg1]) fun i h1 h2 => ?_
  simp [ngk] at h1
  simp [ngk, neg1, h1]
theorem ngk_set {k n : Nat} (h : k < n) : (ngk k n).set k (-1) = ngk (k + 1) n := by
  refine List.ext_getElem (by simp [ngk]) fun i h1 h2 => ?_
  rw [List.getElem_set]
  by_cases e : k = i
  · subst e; simp [ngk]
  · rw [if_neg e]
    simp only [ngk, List.getElem_map, List.getElem_range]
    by_cases e2 : i < k
    · rw [if_pos e2, if_pos (by omega)]
    · rw [if_neg e2, if_neg (by omega)]
/-- Places in memory. -/
def SlN (w : World) (q : Option Addr) (ks : List Nat) : Prop := ∀ i, i < ks.length → ∃ b o, q = some ⟨b, o, none⟩ ∧ w.cell? ⟨b, o + i, none⟩ = some (.int .i64 (ks.getD i 0 : Nat))
theorem SlN.keep {w w' : World} {q : Option Addr} {ks : List Nat} (h : SlN w q ks) (hb : Below w.heap.size w w') : SlN w' q ks := fun i hi => by
  obtain ⟨b, o, e, c⟩ := h i hi
  exact ⟨b, o, e, kp hb (cl_lt c) c⟩
def FtW (xs : List Lf) (ks : List Nat) (n : Nat) (w : World) (e : Ending) (w' : World) : Prop := ∃ v A, e = .returned (.tuple #[v, .int .i64 (ffG xs [] ks (List.replicate n st0) 0).2, .bool true]) ∧ Below w.heap.size w w' ∧ w'.ownsRow w.heap.size 3 1 v n (rowE A) ∧ AL xs ks A (ffG xs [] ks (List.replicate n st0) 0).1
set_option maxRecDepth 100000 in
set_option maxHeartbeats 8000000 in
/-- fit. -/
theorem fitC (p q : Option Addr) (xs : List Lf) (c n m cq : Nat) (ks : List Nat) (w : World) (HN : Hid (xs.length = n)) (hn : n ≤ 60) (RA : Hid (SlL w p xs)) (HZ : Hid (∀ i, i < n → 1 ≤ (xs.getD i lf0).2.2.2 ∧ (xs.getD i lf0).2.2.2 ≤ 4096)) (HK : Hid (ks.length = m ∧ ks.Nodup ∧ ∀ k ∈ ks, k < n)) (hm : m ≤ n) (RK : Hid (SlN w q ks)) :
    Calls Try.prog 24 #[.slice p n c, .slice q m cq] w (FtW xs ks n w) := by
  obtain ⟨RES, hRES⟩ : ∃ RES, ffG xs [] ks (List.replicate n st0) 0 = RES := ⟨_, rfl⟩
  have HRES := Lib.hid hRES
  have PC := Lib.hid placeC
  obtain ⟨i0, hi, hz0, hz1, hz2⟩ := info_parts info3
  clear hRES
  go_enter Try.func24, Try.ntmps24
  go_wp2_with (at_make; refine wpList_make_full _ rfl _ _ 43 rfl w.heap.size 3 i0 (.int .i64 0) 1 Try.underlying43 hi hz0 hz1 .i64 .i64 _ _ n rfl rfl rfl rfl (by rw [hz2]; omega) (by unfold maxLen; omega) (Nat.le_refl _) ?_; intro w1 hown hg)
  have hB1 : Hid (Below w.heap.size w w1) := Lib.hid (Below.grown (Below.refl _ _) hg (Nat.le_refl _) (fun j hj => by cases hj))
  have hO1 : Hid (w1.ownsRow w.heap.size 3 1 (.slice (some ⟨w.heap.size, 0, none⟩) n n) n (rowE (ngk 0 n))) := Lib.hid (by
    have h := hown
    rw [show (Value.int IntKind.i64 0).cells = #[.int .i64 0] from rfl, toList_madeCells_one, Nat.mul_one] at h
    unfold rowE
    rw [ngk_zero, List.map_replicate]
    exact h)
  have hlt1 : w.heap.size < w1.heap.size := (hown.lt w.heap.size rfl).2
  clear hown hg hi hz0 hz1 hz2 i0
  go_loopw [8] (fun iv wr => ∃ (k : Nat), iv = .int .i64 (k : Int) ∧ k ≤ n ∧ Hid (Below w.heap.size w wr) ∧ w.heap.size < wr.heap.size ∧ Hid (wr.ownsRow w.heap.size 3 1 (.slice (some ⟨w.heap.size, 0, none⟩) n n) n (rowE (ngk k n)))) (fun iv _ => n - (intOf iv).toNat)
  case atStart => exact ⟨0, rfl, Nat.zero_le _, hB1, hlt1, hO1⟩
  case round =>
    clear hB1 hO1 hlt1
    obtain ⟨k, rfl, hk, hB, hsz, hO⟩ := hrel
    obtain ⟨w0, hw0⟩ : ∃ w0, w0 = wr := ⟨_, rfl⟩
    subst hw0
    by_cases hlt : k < n
    · have k0 : (0 : Int) ≤ k := by omega
      have k1 : (k : Int) < n := by omega
      have hf := hO.out.frozenAt k
      have hc0 := (hO.out.cellAt k (by omega)).trans (rowE_get (ngk k n) k (by rw [ngk_len]; exact hlt))
      have O2 : Hid ((w0.setCell ⟨w.heap.size, k, none⟩ (.int .i64 (-1))).ownsRow w.heap.size 3 1 (.slice (some ⟨w.heap.size, 0, none⟩) n n) n (rowE (ngk (k + 1) n))) := Lib.hid (by
        have h := (hO.out.stored k (.int .i64 (-1))).1
        rw [rowE_set, ngk_set hlt] at h
        exact h)
      have B2 := Lib.hid (Below.setCell (p := ⟨w.heap.size, k, none⟩) hB.out (Nat.le_refl _) (.int .i64 (-1)))
      go_wp2
      go_roundw
      case rel => exact ⟨k + 1, by go_num, by omega, B2, by simpa using hsz, O2⟩
      case measure => simp [intOf]; omega
    obtain rfl : k = n := by omega
    have kl : ¬ (k : Int) < k := by omega
    have HO : Hid (w0.ownsRow w.heap.size 3 1 (.slice (some ⟨w.heap.size, 0, none⟩) k k) k (rowE (neg1 k))) := Lib.hid (by have h := hO.out; rw [ngk_all] at h; exact h)
    clear hO hk hlt
    go_wp2_with fail
    go_loopw [9, 10] (fun sv iv wr => ∃ (i : Nat) (A : List Int) (L : List St) (s : Int), iv = .int .i64 (i : Int) ∧ sv = .int .i64 s ∧ i ≤ m ∧ 0 ≤ s ∧ s ≤ 4096 * (i : Int) ∧ Hid (ffG xs (ks.take i) (ks.drop i) L s = RES) ∧ Hid (AL xs (ks.take i) A L ∧ BdS (4096 * (i : Int)) L ∧ ∀ j ∈ ks.take i, (L.getD j st0).2.2 = (xs.getD j lf0).2.2.2) ∧ Hid (wr.ownsRow w.heap.size 3 1 (.slice (some ⟨w.heap.size, 0, none⟩) k k) k (rowE A)) ∧ Hid (Below w.heap.size w wr) ∧ w.heap.size < wr.heap.size) (fun _ iv _ => m - (intOf iv).toNat)
    case atStart => exact ⟨0, neg1 k, List.replicate k st0, 0, rfl, rfl, Nat.zero_le _, Int.le_refl _, by omega, HRES, Lib.hid ⟨by rw [← HN.out]; exact AL.start xs, by simpa using rep_bd k, fun j h => absurd h (by simp)⟩, HO, hB, hsz⟩
    case round =>
      clear HO hB hsz
      obtain ⟨i, A, L, s, rfl, rfl, him, s0, s1, HR, HA, hO, hB, hsz⟩ := hrel
      obtain ⟨w2, hw2⟩ : ∃ w2, w2 = wr := ⟨_, rfl⟩
      subst hw2
      by_cases hlt : i < m
      case neg =>
        obtain rfl : i = m := by omega
        have i1 : ¬ (i : Int) < i := by omega
        have HD : Hid (ks.take i = ks ∧ ks.drop i = []) := Lib.hid ⟨List.take_of_length_le (by rw [HK.out.1]; exact Nat.le_refl _), List.drop_of_length_le (by rw [HK.out.1]; exact Nat.le_refl _)⟩
        have HE : Hid ((L, s) = RES) := Lib.hid (by have h := HR.out; rw [HD.out.2] at h; exact h)
        go_wp2_with fail
        refine bodyPost_ret (v := .tuple #[.slice (some ⟨w.heap.size, 0, none⟩) k k, .int .i64 s, .bool true]) (by simp [results, Try.results24, go_sem]) rfl ?_
        refine ⟨_, A, ?_, hB.out, hO.out, ?_⟩
        · rw [HRES.out, ← HE.out]
        · rw [HRES.out, ← HE.out]
          have h := HA.out.1
          rw [HD.out.1] at h
          exact h
      have hks : i < ks.length := by rw [HK.out.1]; exact hlt
      obtain ⟨bq, oq, rfl, hkk⟩ := RK.out i hks
      have hbq : bq < w.heap.size := cl_lt hkk
      have hkk := kpb hB.out hbq hkk
      have hjn := HK.out.2.2 _ (getD_mem0 hks)
      have HNI : Hid (ks.getD i 0 ∉ ks.take i) := Lib.hid (by
        intro h
        obtain ⟨j, hj, e⟩ := List.mem_take_iff_getElem.1 h
        have e2 : ks.getD i 0 = ks[i] := by unfold List.getD; rw [List.getElem?_eq_getElem hks]; rfl
        rw [e2] at e
        have := (List.getElem_inj HK.out.2.1).1 e
        omega)
      obtain ⟨j, hj⟩ : ∃ j, ks.getD i 0 = j := ⟨_, rfl⟩
      have HTS := Lib.hid (take_snoc hks)
      have HDC := Lib.hid (drop_cons0 hks)
      rw [hj] at hkk hjn HTS HDC HNI
      obtain ⟨b, o, rfl, hbw, c0, c1, c2, c3⟩ := SlL_at RA.out HN.out hjn
      have c3 := kpb hB.out hbw c3
      have hzj := HZ.out j hjn
      obtain ⟨z, hz⟩ : ∃ z, (xs.getD j lf0).2.2.2 = z := ⟨_, rfl⟩
      have HZ9 := Lib.hid hz
      rw [hz] at c3 hzj
      obtain ⟨z1, z2⟩ := hzj
      clear hj hz c0 c1 c2 hks
      have hAL := HA.out.1
      have HAB : Hid (A.length = k ∧ ∀ j', j' < k → -1 ≤ A.getD j' e50 ∧ A.getD j' e50 ≤ 245760) := Lib.hid ⟨by rw [hAL.1]; exact HN.out, fun j' hj' => by
        by_cases h : j' ∈ ks.take i
        · obtain ⟨e1, e2⟩ := (hAL.2.2 j' (by rw [HN.out]; exact hj')).1 h
          have := HA.out.2.1.get (show (0 : Int) ≤ 4096 * (i : Int) by omega) j'
          omega
        · rw [(hAL.2.2 j' (by rw [HN.out]; exact hj')).2 h]; omega⟩
      have HPL := Lib.hid (PC.out (some ⟨b, o, none⟩) xs c k w.heap.size j A w2 HN hn hjn (Lib.hid (RA.out.keep hB.out)) HZ HAB (Lib.hid fun i' hi' => (hO.out.cellAt i' (by omega)).trans (rowE_get A i' (by rw [HAB.out.1]; exact hi'))))
      have j0 : (0 : Int) ≤ j := by omega
      have j1 : (j : Int) < k := by omega
      have i0' : (0 : Int) ≤ i := by omega
      have i1 : (i : Int) < m := by omega
      have zM : ¬ (2147483647 : Int) < z := by omega
      clear hAL
      go_upto_region 14 with (go_at_call 39; (with_reducible refine HPL.out.mono ?_); rintro e w3 ⟨⟨x, f, rfl, hpl⟩, B3⟩; have HP3 := Lib.hid hpl; have HB3 := Lib.hid B3; clear hpl B3)
      have HPE := Lib.hid (place_eq HA.out.1 HA.out.2.2 (fun i' hi' => HZ.out i' (by rw [← HN.out]; exact hi')) (by rw [HN.out]; exact hjn) (fun j' hj' => by rw [HN.out]; exact HK.out.2.2 j' (List.mem_of_mem_take hj')) (fun t ht => by have := HA.out.2.1 t ht; omega) (by rw [HN.out]; exact HP3.out))
      have hf := HPE.out.1
      subst hf
      have HXE : Hid (x = ffo z (oth xs L (ks.take i) j)) := Lib.hid (by rw [HPE.out.2, HZ9.out])
      have hxb := ffo_bd (z := z) (oth_bd (xs := xs) (pre := ks.take i) (k := j) HA.out.2.1 (show (0 : Int) ≤ 4096 * (i : Int) by omega)) (show (0 : Int) ≤ 4096 * (i : Int) by omega)
      rw [← HXE.out] at hxb
      obtain ⟨x0, x1⟩ := hxb
      have hO3 := own_belowE hO.out HB3.out
      have hB3 : Hid (Below w.heap.size w w3) := Lib.hid (hB.out.trans (HB3.out.mono (by omega)))
      have hs3 := HB3.out.size
      have hf3 := hO3.frozenAt j
      have hc3 := (hO3.cellAt j (by omega)).trans (rowE_get A j (by rw [HAB.out.1]; exact hjn))
      have ON : Hid ((w3.setCell ⟨w.heap.size, j, none⟩ (.int .i64 x)).ownsRow w.heap.size 3 1 (.slice (some ⟨w.heap.size, 0, none⟩) k k) k (rowE (A.set j x))) := Lib.hid (by
        have h := (hO3.stored j (.int .i64 x)).1
        rw [rowE_set] at h
        exact h)
      have BN : Hid (Below w.heap.size w (w3.setCell ⟨w.heap.size, j, none⟩ (.int .i64 x))) := Lib.hid (hB3.out.setCell (p := ⟨w.heap.size, j, none⟩) (Nat.le_refl _) _)
      have c4 := kpb hB3.out hbw (show w.cell? ⟨b, o + j * 4 + 3, none⟩ = some (.int .i64 z) by
        obtain ⟨b9, o9, e9, _, _, _, _, d3⟩ := SlL_at RA.out HN.out hjn
        cases e9
        rw [← HZ9.out]; exact d3)
      have hne : ¬ w.heap.size = b := by omega
      have c5 : (w3.setCell ⟨w.heap.size, j, none⟩ (.int .i64 x)).cell? ⟨b, o + j * 4 + 3, none⟩ = some (.int .i64 z) := by rw [World.cell?_setCell_far _ _ _ _ hne]; exact c4
      have HAN : Hid (AL xs (ks.take (i + 1)) (A.set j x) (L.set j ((xs.getD j lf0).1, x, z)) ∧ BdS (4096 * ((i + 1 : Nat) : Int)) (L.set j ((xs.getD j lf0).1, x, z)) ∧ ∀ j' ∈ ks.take (i + 1), ((L.set j ((xs.getD j lf0).1, x, z)).getD j' st0).2.2 = (xs.getD j' lf0).2.2.2) := Lib.hid (by
        rw [HTS.out]
        refine ⟨HA.out.1.next (s := ((xs.getD j lf0).1, x, z)) (by rw [HN.out]; exact hjn) x0, ?_, fun j' hj' => ?_⟩
        · rw [show 4096 * ((i + 1 : Nat) : Int) = 4096 * (i : Int) + 4096 by omega]
          exact HA.out.2.1.set ⟨x0, by show 0 ≤ z; omega, z2, by show x + z ≤ _; omega⟩
        · rw [st_set]
          by_cases h : j' = j
          · rw [if_pos ⟨h, by rw [HA.out.1.2.1, HN.out]; exact hjn⟩, h]; exact HZ9.out.symm
          · rw [if_neg (fun e => h e.1)]
            rcases List.mem_append.1 hj' with h2 | h2
            · exact HA.out.2.2 j' h2
            · rw [List.mem_singleton] at h2; exact absurd h2 h)
      have HRN : Hid (ffG xs (ks.take (i + 1)) (ks.drop (i + 1)) (L.set j ((xs.getD j lf0).1, x, z)) (max s (x + z)) = RES) := Lib.hid (by
        have h := HR.out
        rw [HDC.out] at h
        unfold ffG at h
        rw [HZ9.out, ← HXE.out] at h
        rw [HTS.out]
        exact h)
      have hs4 : w.heap.size < w3.heap.size := by omega
      clear hO3 HXE HPE
      by_cases hmx : s < x + z
      · rw [show max s (x + z) = x + z by omega] at HRN
        go_wp2_with fail
        go_roundw
        case rel => exact ⟨i + 1, A.set j x, L.set j ((xs.getD j lf0).1, x, z), x + z, by go_num, rfl, by omega, by omega, by omega, HRN, HAN, ON, BN, by simpa using hs4⟩
        case measure => simp [intOf]; omega
      · have hmx2 : x + z ≤ s := by omega
        rw [show max s (x + z) = s by omega] at HRN
        clear hmx
        go_wp2_with fail
        go_roundw
        case rel => exact ⟨i + 1, A.set j x, L.set j ((xs.getD j lf0).1, x, z), s, by go_num, rfl, by omega, by omega, by omega, HRN, HAN, ON, BN, by simpa using hs4⟩
        case measure => simp [intOf]; omega
end Go.Proofs.Ytghnigmmkenddaa.Ar

/- The contracts of package octet: hexadecimal digits. -/
import Derived.Test.YtohnojdofilpnaaDoorOctetWalks
import Derived.Test.YtohnojdofilpnaaDoorBuilderWalks
import Derived.Laws.RangeString
import Derived.Laws.RangeAny
import Derived.Lib.OthersKept
import Derived.Deep.OwnRows
namespace Go.Proofs.YtohnojdofilpnaaDoor
open Go.RowKit
set_option linter.unusedVariables false

theorem hexL_takeS (s : ByteArray) (k : Nat) (h : k < s.size) : cellsB (hexL (s.data.toList.take (k + 1))) = cellsB (hexL (s.data.toList.take k)) ++ [.int .u8 ((hexD ((s[k]'h).toNat / 16)).toNat : Int)] ++ [.int .u8 ((hexD ((s[k]'h).toNat % 16)).toNat : Int)] := by
  rw [List.take_succ_eq_append_getElem (by simpa using h), hexL_append, cellsB_append]
  simp [hexL, cellsB]
  exact ⟨rfl, rfl⟩
/-- The constant of the digits. -/
theorem dig_get : ∀ (n : Nat) (h : n < 16), (({ data := #[48, 49, 50, 51, 52, 53, 54, 55, 56, 57, 97, 98, 99, 100, 101, 102] } : ByteArray)[n]'h) = hexD n := by decide
set_option maxHeartbeats 1000000 in
theorem hex_any (s : ByteArray) (hs : s.size ≤ 1099511627776) (w : World) :
    Calls Tryd.prog 38 #[.string s] w fun e w' => e = .returned (.string ⟨(hexL s.data.toList).toArray⟩) ∧ Below w.heap.size w w' := by
  go_enter Tryd.func38, Tryd.ntmps38
  go_wp2_with fail
  rw [show (2 * (s.size : Int)) = ((2 * s.size : Nat) : Int) by omega]
  refine (Tryd.Builder_Grow_fresh w.heap.size w.heap.size (2 * s.size) _ (Nat.le_refl _) (heap_alloc_new w _) (by simp) (by omega)).mono ?_
  rintro e w1 ⟨rfl, hB1, hb1⟩
  have hb2 := ((Below.refl w.heap.size w).alloc (Nat.le_refl _) (.cells #[.pointer none, .slice none 0 0] 61)).trans hb1
  have hB2 : Hid (Lib.BuilderAt 61 5 w.heap.size w.heap.size (.pointer (some ⟨w.heap.size, 0, none⟩)) [] w1) := Lib.hid hB1
  clear hB1 hb1
  go_wp2_with fail
  go_loopw [11] (fun i wr => ∃ k : Nat, k ≤ s.size ∧ i = .int .i64 k ∧ Hid (Lib.BuilderAt 61 5 w.heap.size w.heap.size (.pointer (some ⟨w.heap.size, 0, none⟩)) (cellsB (hexL (s.data.toList.take k))) wr) ∧ Below w.heap.size w wr) (fun i _ => s.size - (intOf i).toNat)
  case atStart => exact ⟨0, by omega, rfl, hB2, hb2⟩
  case round =>
    obtain ⟨k, hk, rfl, HB, hb⟩ := hrel
    have hbs := hb.size
    by_cases hlt : k < s.size
    · have hc := (s[k]'hlt).toNat_lt
      have HS := Lib.hid (hexL_takeS s k hlt)
      have hl := cellsB_length (hexL (s.data.toList.take k))
      rw [hexL_length] at hl
      have hl2 : (cellsB (hexL (s.data.toList.take k))).length ≤ 2 * s.size := by
        have := List.length_take_le k s.data.toList
        omega
      clear hl
      go_wp2_with fail
      rw [dig_get _ (by omega)]
      refine (wbyte_any _ _ _ _ _ HB.out (by omega) hbs).mono ?_
      rintro e w2 ⟨rfl, h2, hb2⟩
      have H2 := Lib.hid h2
      have hbs2 := hb2.size
      clear h2
      go_wp2_with fail
      rw [dig_get _ (by omega)]
      refine (wbyte_any _ _ _ _ _ H2.out (by simp; omega) (by omega)).mono ?_
      rintro e w3 ⟨rfl, h3, hb3⟩
      rw [← HS.out] at h3
      have H3 := Lib.hid h3
      clear h3
      go_wp2
      go_roundw
      case rel => exact ⟨k + 1, by omega, by go_num, H3, (hb.trans hb2).trans hb3⟩
      case measure => simp [intOf]; omega
    · have hkk : Hid (k = s.size) := Lib.hid (by omega)
      have HE : Hid (s.data.toList.take k = s.data.toList) := Lib.hid (by rw [hkk.out, List.take_of_length_le (by simp)])
      go_wp2_with fail
      refine (Tryd.Builder_String_any_k w.heap.size w.heap.size (hexL (s.data.toList.take k)) _ (Lib.IsBuilderF.of (.inr HB.out)) hbs).mono ?_
      rintro e w2 ⟨rfl, _, hb2, _⟩
      go_wp2
      go_ret
      exact ⟨ret_str (by rw [HE.out]), hb.trans hb2⟩

/-- digit: the value of a hexadecimal digit. -/
theorem digit_any (c : Int) (w : World) :
    Calls Tryd.prog 41 #[.int .i32 c] w fun e w' => e = .returned (.tuple #[.int .u8 (valN c), .bool (valOk c)]) ∧ Below w.heap.size w w' := by
  go_enter Tryd.func41, Tryd.ntmps41
  go_wp2
  go_loopw [] (fun wr => ∃ k : Nat, k ≤ 16 ∧ wr = w.iter ⟨#[48, 49, 50, 51, 52, 53, 54, 55, 56, 57, 97, 98, 99, 100, 101, 102]⟩ k ∧ Hid (∀ j, j < k → ((hexD j).toNat : Int) ≠ c)) (fun wr => 16 - wr.iterPos w.heap.size)
  case atStart => exact ⟨0, by omega, rfl, Lib.hid (fun j hj => by omega)⟩
  case round =>
    obtain ⟨k, hk, rfl, HA⟩ := hrel
    have hbl : ∀ p, Below w.heap.size w (w.iter ⟨#[48, 49, 50, 51, 52, 53, 54, 55, 56, 57, 97, 98, 99, 100, 101, 102]⟩ p) := fun p => (Below.refl _ _).alloc (Nat.le_refl _) _
    have HBL := Lib.hid hbl
    clear hbl
    by_cases hlt : k < 16
    · have hnx : ∀ ty, (Instr.next (.pointer (some ⟨w.heap.size, 0, none⟩)) true ty).run Tryd.prog (w.iter ⟨#[48, 49, 50, 51, 52, 53, 54, 55, 56, 57, 97, 98, 99, 100, 101, 102]⟩ k) = .ok (.tuple #[.bool true, .int .i64 k, .int .i32 ((hexD k).toNat : Int)]) (w.iter ⟨#[48, 49, 50, 51, 52, 53, 54, 55, 56, 57, 97, 98, 99, 100, 101, 102]⟩ (k + 1)) := fun ty => by
        have h := run_next_ascii (P := Tryd.prog) w ⟨#[48, 49, 50, 51, 52, 53, 54, 55, 56, 57, 97, 98, 99, 100, 101, 102]⟩ k ty hlt (by rw [dig_get k hlt, hexD_toNat k hlt]; split <;> omega)
        rw [dig_get k hlt] at h
        exact h
      by_cases he : ((hexD k).toNat : Int) = c
      · have HV := Lib.hid (valN_some (c := c) (v := k) (by rw [← he]; exact valI_hexD k hlt))
        have ht : (c == ((hexD k).toNat : Int)) = true := by simpa using he.symm
        clear he
        go_wp2
        go_ret2
        exact ⟨ret_ib HV.out.1.symm HV.out.2.symm, HBL.out _⟩
      · have ht : (c == ((hexD k).toNat : Int)) = false := by simpa using fun h => he h.symm
        have HA2 : Hid (∀ j, j < k + 1 → ((hexD j).toNat : Int) ≠ c) := Lib.hid (fun j hj => by
          by_cases hjk : j = k
          · subst hjk; exact he
          · exact HA.out j (by omega))
        clear he
        go_wp2
        go_roundw
        case rel => exact ⟨k + 1, by omega, rfl, HA2⟩
        case measure => simp; omega
    · have hk16 : k = 16 := by omega
      subst hk16
      have HV := Lib.hid (valN_none (c := c) (valI_none HA.out))
      have hnx : ∀ ty, (Instr.next (.pointer (some ⟨w.heap.size, 0, none⟩)) true ty).run Tryd.prog (w.iter ⟨#[48, 49, 50, 51, 52, 53, 54, 55, 56, 57, 97, 98, 99, 100, 101, 102]⟩ 16) = _ := fun ty => run_next_end w _ 16 ty (by decide)
      go_wp2
      go_ret2
      exact ⟨ret_ib HV.out.1.symm HV.out.2.symm, HBL.out _⟩

theorem madeCells_rep (z : Value) (n : Nat) : madeCells #[z] n = Array.replicate n z := by
  apply Array.toList_inj.1
  rw [toList_madeCells_one]
  simp
theorem iter_other {w : World} {g k : Nat} {t : TypeId} {cs : Array Value} (h : HasB w g t cs) (hne : g ≠ k) (s : ByteArray) (pos : Nat) : HasB (w.iterAt k s pos) g t cs := by
  unfold HasB at *; rw [Lib.iterAt_other w k g s pos hne]; exact h
set_option maxHeartbeats 1000000 in
theorem unhex_any (s : ByteArray) (hs : s.size ≤ 1099511627776) (w : World) :
    Calls Tryd.prog 34 #[.string s] w fun e w' => e = .returned (.tuple #[.string ⟨(unhexV s.data.toList).toArray⟩, .bool (unhexOk s.data.toList)]) ∧ Below w.heap.size w w' := by
  obtain ⟨ti, hi, hz0, hz1, hz2⟩ := info_parts Tryd.infoU8
  have hsz : s.data.toList.length = s.size := by simp
  by_cases hodd : s.size % 2 = 1
  · have HN : Hid (unhexL s.data.toList = none) := Lib.hid (unhexL_odd _ (by omega))
    have ht : ((s.size : Int) % 2 != 0) = true := by simp; omega
    clear hsz hodd
    go_enter Tryd.func34, Tryd.ntmps34
    go_wp2
    go_ret2
    exact ⟨by rw [(unhex_none HN.out).1, (unhex_none HN.out).2]; rfl, Below.refl _ _⟩
  · have ht : ((s.size : Int) % 2 != 0) = false := by simp; omega
    have HP : Hid (s.size % 2 = 0) := Lib.hid (by omega)
    have HL := Lib.hid hsz
    clear hsz hodd
    go_enter Tryd.func34, Tryd.ntmps34
    have hmk : ∀ W : World, (Instr.makeSlice 50 (.int .i64 ((s.size : Int) / 2)) (.int .i64 ((s.size : Int) / 2))).run Tryd.prog W = .ok (.slice (some ⟨W.heap.size, 0, none⟩) (s.size / 2) (s.size / 2)) (W.alloc (.cells (hcells s.data.toList 0) 5)) := fun W => by
      have h := run_make_row (P := Tryd.prog) 50 5 ti (.int .u8 0) Tryd.underlying50 hi hz0 hz1 rfl .i64 .i64 (s.size / 2) (by rw [hz2]; omega) (by omega) W
      rw [show ((s.size / 2 : Nat) : Int) = (s.size : Int) / 2 by omega] at h
      rw [hcells_zero, HL.out, ← madeCells_rep]
      exact h
    go_wp2
    clear hmk
    go_loopw [] (fun wr => ∃ pos : Nat, pos ≤ s.size ∧ HasB wr w.heap.size 5 (hcells s.data.toList pos) ∧ Hid (wr.heap[w.heap.size + 1]? = some (.stringIter s pos)) ∧ Below w.heap.size w wr ∧ Hid (∀ i, i < pos → valOk ((s.data.toList.getD i 0).toNat : Int) = true)) (fun wr => s.size - wr.iterPos (w.heap.size + 1))
    case atStart => 
      refine ⟨0, by omega, (HasB.new w 5 _).alloc _, Lib.hid ?_, ((Below.refl _ w).alloc (Nat.le_refl _) _).alloc (by simp) _, Lib.hid (fun i hi => by omega)⟩
      have := World.iter_heap (w.alloc (.cells (hcells s.data.toList 0) 5)) s 0
      simpa using this
    case round =>
      obtain ⟨pos, hpos, hA, HI, hb, HV⟩ := hrel
      have hlt2 : w.heap.size + 1 < wr.heap.size := (Array.getElem?_eq_some_iff.1 HI.out).1
      have HIR := Lib.hid HI.out
      by_cases hp : pos < s.size
      · by_cases ha : (s[pos]'hp).toNat < 128
        · have hnx : ∀ ty, (Instr.next (.pointer (some ⟨w.heap.size + 1, 0, none⟩)) true ty).run Tryd.prog wr = _ := fun ty => Lib.run_next_ascii_at wr (w.heap.size + 1) s pos ty HI.out hp ha
          have hA2 := iter_other hA (k := w.heap.size + 1) (by omega) s (pos + 1)
          have HI2 := Lib.hid (Lib.iterAt_heap wr (w.heap.size + 1) s pos (pos + 1) HI.out)
          have hb2 := Lib.below_iterAt hb (k := w.heap.size + 1) (by omega) s (pos + 1)
          have hz2' : (wr.iterAt (w.heap.size + 1) s (pos + 1)).heap.size = wr.heap.size := Lib.iterAt_size _ _ _ _
          have hge : Hid (s.data.toList.getD pos 0 = s[pos]'hp) := Lib.hid (by rw [List.getD_eq_getElem?_getD, List.getElem?_eq_getElem (by rw [HL.out]; exact hp), Option.getD_some]; rfl)
          cases hv : valI ((s[pos]'hp).toNat : Int) with
          | none =>
            have HN : Hid (unhexL s.data.toList = none) := Lib.hid (unhexL_none_at _ pos (by rw [HL.out]; exact hp) (by rw [hge.out]; exact hv))
            have hok := (valN_none hv).2
            clear hA hb hv HI
            go_wp2_with (go_at_call 41; refine (digit_any _ _).mono ?_; rintro e w1 ⟨rfl, hb3⟩)
            go_ret2
            exact ⟨by rw [(unhex_none HN.out).1, (unhex_none HN.out).2]; rfl, hb2.trans (hb3.mono (by rw [hz2']; omega))⟩
          | some v =>
            have hok := (valN_some hv).2
            have HV2 : Hid (∀ i, i < pos + 1 → valOk ((s.data.toList.getD i 0).toNat : Int) = true) := Lib.hid (fun i hi => by
              by_cases hip : i = pos
              · subst hip; rw [hge.out]; exact hok
              · exact HV.out i (by omega))
            have hidx : (pos : Int) / 2 < (s.size : Int) / 2 := by have := HP.out; omega
            obtain ⟨n1, n2, n3⟩ := hcell_next s.data.toList pos
            have hvv : vv s.data.toList pos = valN ((s[pos]'hp).toNat : Int) := by unfold vv; rw [hge.out]
            rw [hvv] at n1
            have nb := valN_bd ((s[pos]'hp).toNat : Int)
            have HO := Lib.hid (or_join4 _ _ n2 n3 nb.1 nb.2)
            have N1 := Lib.hid n1
            obtain ⟨nb1, nb2⟩ := nb
            clear hA hb HI n1 hvv
            go_wp2_with (go_at_call 41; refine (digit_any _ _).mono ?_; rintro e w1 ⟨rfl, hb3⟩; have hA3 := HasB.below hA2 hb3 (by rw [hz2']; omega); have hc3 := HasB.cell hA3 (pos / 2) _ (hcells_at _ _ _ (by rw [HL.out]; have := HP.out; omega)); have hf3 := HasB.free hA3 (pos / 2); have HA3 := Lib.hid hA3; clear hA3)
            go_roundw
            case rel =>
              refine ⟨pos + 1, by omega, ?_, ?_, ?_, HV2⟩
              · have h := HA3.out.put (pos / 2) (.int .u8 (hcell s.data.toList (pos + 1) (pos / 2)))
                rw [hcells_set, N1.out] at h
                rw [HO.out]
                exact h
              · have h1 : w1.heap[w.heap.size + 1]? = some (.stringIter s (pos + 1)) := (hb3.block (w.heap.size + 1) (by rw [hz2']; omega)).trans HI2.out
                exact Lib.hid ((Below.heap_setCell _ _ _ _ (by simp)).trans h1)
              · exact (hb2.trans (hb3.mono (by rw [hz2']; omega))).setCell (by simp) _
            case measure =>
              have h1 : w1.heap[w.heap.size + 1]? = some (.stringIter s (pos + 1)) := (hb3.block (w.heap.size + 1) (by rw [hz2']; omega)).trans HI2.out
              have h2 : ∀ u, (w1.setCell ⟨w.heap.size, pos / 2, none⟩ u).heap[w.heap.size + 1]? = some (.stringIter s (pos + 1)) := fun u => (Below.heap_setCell _ _ _ _ (by simp)).trans h1
              simp only [World.iterPos, h2, HIR.out]
              omega
        · have hnx : ∀ ty, (Instr.next (.pointer (some ⟨w.heap.size + 1, 0, none⟩)) true ty).run Tryd.prog wr = _ := fun ty => Lib.run_next_any_at wr (w.heap.size + 1) s pos ty HI.out hp
          have hdh := (decode_high s pos hp (by omega)).1
          have hb2 := Lib.below_iterAt hb (k := w.heap.size + 1) (by omega) s (pos + (Utf8.decode s pos).2)
          have hz2' : (wr.iterAt (w.heap.size + 1) s (pos + (Utf8.decode s pos).2)).heap.size = wr.heap.size := Lib.iterAt_size _ _ _ _
          have hge : Hid (s.data.toList.getD pos 0 = s[pos]'hp) := Lib.hid (by rw [List.getD_eq_getElem?_getD, List.getElem?_eq_getElem (by rw [HL.out]; exact hp), Option.getD_some]; rfl)
          have HN : Hid (unhexL s.data.toList = none) := Lib.hid (unhexL_none_at _ pos (by rw [HL.out]; exact hp) (by rw [hge.out]; exact valI_high (by omega)))
          have hok := (valN_none (valI_high (c := ((Utf8.decode s pos).1 : Int)) (by omega))).2
          clear hA hb HI
          go_wp2_with (go_at_call 41; refine (digit_any _ _).mono ?_; rintro e w1 ⟨rfl, hb3⟩)
          go_ret2
          exact ⟨by rw [(unhex_none HN.out).1, (unhex_none HN.out).2]; rfl, hb2.trans (hb3.mono (by rw [hz2']; omega))⟩
      · have hnx : ∀ ty, (Instr.next (.pointer (some ⟨w.heap.size + 1, 0, none⟩)) true ty).run Tryd.prog wr = _ := fun ty => Lib.run_next_end_at wr (w.heap.size + 1) s pos ty HI.out hp
        have hpe : Hid (pos = s.size) := Lib.hid (by omega)
        have HN := Lib.hid (unhexL_all s.data.toList (by rw [HL.out]; exact HP.out) (fun i hi => HV.out i (by rw [HL.out] at hi; rw [hpe.out]; exact hi)))
        have hcv : (convert 50 9 (.slice (some ⟨w.heap.size, 0, none⟩) (s.size / 2) (s.size / 2))).run Tryd.prog wr = .ok (.string ⟨((List.range (s.data.toList.length / 2)).map fun j => UInt8.ofNat (hcell s.data.toList s.data.toList.length j).toNat).toArray⟩) wr := by
          have h := run_convert_bytes_back (P := Tryd.prog) wr 50 9 5 ⟨w.heap.size, 0, none⟩ (s.size / 2) ((List.range (s.data.toList.length / 2)).map fun j => UInt8.ofNat (hcell s.data.toList s.data.toList.length j).toNat) (by kernel_rfl) (by kernel_rfl) (by kernel_rfl) (fun j hj => by
            have hj2 : j < s.data.toList.length / 2 := by simpa using hj
            rw [addr_add]
            refine (HasB.cell hA j _ (hcells_at _ _ _ hj2)).trans ?_
            have hbd := hcell_bd s.data.toList pos j
            simp only [List.getElem_map, List.getElem_range]
            rw [show s.data.toList.length = pos by rw [HL.out, hpe.out]]
            congr 2
            simp
            omega)
          have e : ((List.range (s.data.toList.length / 2)).map fun j => UInt8.ofNat (hcell s.data.toList s.data.toList.length j).toNat).length = s.size / 2 := by rw [List.length_map, List.length_range, HL.out]
          rw [e] at h
          exact h
        go_wp2
        go_ret2
        exact ⟨by rw [(unhex_some HN.out).1, (unhex_some HN.out).2]; rfl, hb⟩
end Go.Proofs.YtohnojdofilpnaaDoor

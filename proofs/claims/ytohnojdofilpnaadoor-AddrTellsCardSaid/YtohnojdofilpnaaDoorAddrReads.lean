/- The contracts of package addr: readFour, readSix, Get, Read. -/
import Derived.Test.YtohnojdofilpnaaDoorAddrWalks
import Derived.Test.YtohnojdofilpnaaDoorHexWalks
import Derived.Handy
namespace Go.Proofs.YtohnojdofilpnaaDoor
open Go.RowKit
set_option linter.unusedVariables false

theorem get4 (s : ByteArray) (h : s.size = 4) : getN s 0 4 = gLo s.data.toList := by
  have hl : s.data.toList.length = 4 := by simpa using h
  rw [getN_yes (by omega) (by omega) (by omega) (by omega)]
  unfold gLo
  rw [if_neg (by omega), if_pos hl]
  simp only [Int.toNat_zero, List.drop_zero]
  rw [List.take_of_length_le (by rw [hl]; decide)]
theorem get16 (s : ByteArray) (h : s.size = 16) : getN s 0 8 = gHi s.data.toList ∧ getN s 8 8 = gLo s.data.toList := by
  have hl : s.data.toList.length = 16 := by simpa using h
  rw [getN_yes (by omega) (by omega) (by omega) (by omega), getN_yes (by omega) (by omega) (by omega) (by omega)]
  unfold gHi gLo
  rw [if_pos hl, if_pos hl]
  refine ⟨rfl, ?_⟩
  rw [List.take_of_length_le (by rw [List.length_drop, hl]; decide)]; rfl
theorem get_addr (s : ByteArray) (hs : s.size ≤ maxLen) (w : World) :
    Calls Tryd.prog 6 #[.string s] w fun e w' => e = .returned (.tuple #[.agg #[.bool (gV s.data.toList), .int .u64 (gHi s.data.toList), .int .u64 (gLo s.data.toList)], .bool (gOk s.data.toList)]) ∧ Below w.heap.size w w' := by
  unfold maxLen at hs
  have hl : s.data.toList.length = s.size := by simp
  by_cases h4 : s.size = 4
  · have HV : Hid (gV s.data.toList = false) := Lib.hid (decide_eq_false (by omega))
    have HH : Hid (gHi s.data.toList = 0) := Lib.hid (if_neg (by omega))
    have HO : Hid (gOk s.data.toList = true) := Lib.hid (decide_eq_true (by omega))
    have HG := Lib.hid (get4 s h4)
    have h4i : ((s.size : Int) == 4) = true := by simp; omega
    clear hl
    go_enter Tryd.func6, Tryd.ntmps6
    go_wp2_with (go_at_call 19; refine (get_any _ _ _ (by unfold maxLen; omega) (by omega) (by omega) _).mono ?_; rintro e w2 ⟨rfl, rfl⟩)
    go_returns
    exact ⟨by rw [HV.out, HH.out, HO.out, HG.out], (Below.refl _ _).alloc (Nat.le_refl _) _⟩
  · by_cases h16 : s.size = 16
    · have HV : Hid (gV s.data.toList = true) := Lib.hid (decide_eq_true (by omega))
      have HO : Hid (gOk s.data.toList = true) := Lib.hid (decide_eq_true (by omega))
      have HG := Lib.hid (get16 s h16)
      have h4i : ((s.size : Int) == 4) = false := by simp; omega
      have h16i : ((s.size : Int) == 16) = true := by simp; omega
      clear hl
      go_enter Tryd.func6, Tryd.ntmps6
      go_wp2_with (go_at_call 19; refine (get_any _ _ _ (by unfold maxLen; omega) (by omega) (by omega) _).mono ?_; rintro e w2 ⟨rfl, rfl⟩)
      go_returns
      exact ⟨by rw [HV.out, HO.out, HG.out.1, HG.out.2], (Below.refl _ _).alloc (Nat.le_refl _) _⟩
    · have HV : Hid (gV s.data.toList = false) := Lib.hid (decide_eq_false (by omega))
      have HH : Hid (gHi s.data.toList = 0) := Lib.hid (if_neg (by omega))
      have HG : Hid (gLo s.data.toList = 0) := Lib.hid (by unfold gLo; rw [if_neg (by omega), if_neg (by omega)])
      have HO : Hid (gOk s.data.toList = false) := Lib.hid (decide_eq_false (by omega))
      have h4i : ((s.size : Int) == 4) = false := by simp; omega
      have h16i : ((s.size : Int) == 16) = false := by simp; omega
      clear hl
      go_enter Tryd.func6, Tryd.ntmps6
      go_wp2
      go_returns
      exact ⟨by rw [HV.out, HH.out, HO.out, HG.out], (Below.refl _ _).alloc (Nat.le_refl _) _⟩
def fourV (l : List UInt8) : List UInt8 := if isFour l then fourB l else []
def sixV (l : List UInt8) : List UInt8 := if isSix l then sixB l else []
theorem ret_sb {a b : ByteArray} {p q : Bool} (h : a = b) (k : p = q) : Ending.returned (.tuple #[.string a, .bool p]) = .returned (.tuple #[.string b, .bool q]) := by rw [h, k]
theorem str4 : strCells [] 4 = #[.string ⟨#[]⟩, .string ⟨#[]⟩, .string ⟨#[]⟩, .string ⟨#[]⟩] := rfl
theorem str8 : strCells [] 8 = #[.string ⟨#[]⟩, .string ⟨#[]⟩, .string ⟨#[]⟩, .string ⟨#[]⟩, .string ⟨#[]⟩, .string ⟨#[]⟩, .string ⟨#[]⟩, .string ⟨#[]⟩] := rfl
/-- 'a[i]' of an array by value. -/
theorem run_index_agg {P : Program} (t e : TypeId) (n : Nat) (cs : Array Value) (k : IntKind) (i : Nat) (v : Value) (h : P.underlying t = some (.array n e)) (hi : i < n) (hv : cs[i]? = some v) (hs : ∀ w, (sizeOf e).run P w = .ok 1 w) (ha : ∀ w, (isAgg e).run P w = .ok false w) (w : World) :
    (Instr.index t (.agg cs) (.int k i)).run P w = .ok v w := by
  simp [Instr.index, run_underlying h, asIntOf, hi, hv, hs, ha, go_sem]
/-- The cells of a row of m bytes, the first k of them decimal numbers. -/
def decCells (gs : List (List UInt8)) (k m : Nat) : Array Value := ((gs.take k).map (fun g => Value.int .u8 (decV g : Nat)) ++ List.replicate (m - k) (Value.int .u8 0)).toArray
theorem decCells_set (gs : List (List UInt8)) (k m : Nat) (hk : k < gs.length) (hm : k < m) : (decCells gs k m).setIfInBounds k (.int .u8 (decV gs[k] : Nat)) = decCells gs (k + 1) m := by
  unfold decCells
  obtain ⟨r, hr⟩ : ∃ r, m - k = r + 1 := ⟨m - k - 1, by omega⟩
  rw [show m - (k + 1) = r by omega, hr, List.replicate_succ, List.take_succ_eq_append_getElem hk]
  have hl : ((gs.take k).map fun g => Value.int .u8 (decV g : Nat)).length = k := by rw [List.length_map, List.length_take]; omega
  rw [List.setIfInBounds_toArray, List.set_append_right _ _ (by rw [hl]; exact Nat.le_refl _), hl, Nat.sub_self, List.set_cons_zero, List.map_append, List.append_assoc]
  rfl
theorem decCells_zero (gs : List (List UInt8)) (k m : Nat) (hk : k < m) (hg : k ≤ gs.length) : (decCells gs k m)[k]? = some (.int .u8 0) := by
  unfold decCells
  have hl : ((gs.take k).map fun g => Value.int .u8 (decV g : Nat)).length = k := by rw [List.length_map, List.length_take]; omega
  rw [List.getElem?_toArray, List.getElem?_append_right (by rw [hl]; exact Nat.le_refl _), hl, Nat.sub_self, List.getElem?_replicate, if_pos (by omega)]
theorem four_parts (gs : List (List UInt8)) (h : gs.length = 4) : ∃ a b c d, gs = [a, b, c, d] := by
  match gs, h with
  | [a, b, c, d], _ => exact ⟨a, b, c, d, rfl⟩
theorem eight_parts (gs : List (List UInt8)) (h : gs.length = 8) : ∃ a b c d e f g i, gs = [a, b, c, d, e, f, g, i] := by
  match gs, h with
  | [a, b, c, d, e, f, g, i], _ => exact ⟨a, b, c, d, e, f, g, i, rfl⟩
theorem decV_lt (l : List UInt8) : decV l < 256 := by
  unfold decV; split
  · rename_i h; exact (digL_numD l h).1
  · omega
theorem parts_size (c : UInt8) : ∀ (l g : List UInt8), g ∈ partsL c l → g.length ≤ l.length
  | [], g, h => by simp [partsL] at h; simp [h]
  | b :: l, g, h => by
    obtain ⟨x, xs, hx⟩ := partsL_pos c l
    rw [partsL, hx] at h
    split at h
    · rcases List.mem_cons.1 h with rfl | h
      · simp
      · have := parts_size c l g (by rw [hx]; exact h); simp; omega
    · simp only [List.headD_cons, List.tail_cons] at h
      rcases List.mem_cons.1 h with rfl | h
      · have := parts_size c l x (by rw [hx]; simp); simp; omega
      · have := parts_size c l g (by rw [hx]; exact List.mem_cons_of_mem _ h); simp; omega
theorem readFour_any (s : ByteArray) (hs : s.size ≤ maxLen) (w : World) :
    Calls Tryd.prog 21 #[.string s] w fun e w' => e = .returned (.tuple #[.string ⟨(fourV s.data.toList).toArray⟩, .bool (isFour s.data.toList)]) ∧ Below w.heap.size w w' := by
  have hB := HasB.new w 45 (strCells [] 4)
  have hq : Below w.heap.size w (w.alloc (.cells (strCells [] 4) 45)) := (Below.refl _ _).alloc (Nat.le_refl _) _
  rw [str4] at hq
  go_enter Tryd.func21, Tryd.ntmps21
  by_cases hp : (partsL 46 s.data.toList).length = 4
  · have hd := decide_eq_true hp
    obtain ⟨g0, g1, g2, g3, hgs⟩ := four_parts _ hp
    have HG := Lib.hid hgs
    have HSZ := Lib.hid (parts_size 46 s.data.toList)
    clear hgs
    go_wp2_with (first | (go_at_call 32; refine (split_any s 46 w.heap.size 4 45 hs (by omega) (by omega) _ hB).mono ?_; rintro e w1 ⟨gs, rfl, hK1, hA1, hg1⟩; obtain rfl : gs = [g0, g1, g2, g3] := (hg1 hp).trans HG.out; clear hg1; have hs1 := hK1.size; have hA2 := HasB.alloc hA1 (.cells #[.int .u8 0, .int .u8 0, .int .u8 0, .int .u8 0] 47); have HK1 := Lib.hid hK1; clear hA1 hK1; have c0 := HasB.cell hA2 0 _ (strCells_get [g0, g1, g2, g3] 4 0 (by simp)); have c1 := HasB.cell hA2 1 _ (strCells_get [g0, g1, g2, g3] 4 1 (by simp)); have c2 := HasB.cell hA2 2 _ (strCells_get [g0, g1, g2, g3] 4 2 (by simp)); have c3 := HasB.cell hA2 3 _ (strCells_get [g0, g1, g2, g3] 4 3 (by simp))) | fail)
    clear c0 c1 c2 c3 hA2
    have hq1 : Below w.heap.size w w1 := hq.trans (HK1.out.below (by simp) (by rintro k rfl; exact Nat.le_refl _))
    have hz1 : w.heap.size < w1.heap.size := by simp at hs1; omega
    go_loopw [15] (fun i wr => ∃ k : Nat, k ≤ 4 ∧ i = .int .i64 k ∧ HasB wr w1.heap.size 47 (decCells [g0, g1, g2, g3] k 4) ∧ Below w.heap.size w wr ∧ w1.heap.size < wr.heap.size ∧ Hid (([g0, g1, g2, g3].take k).all isDec = true)) (fun i _ => 4 - (intOf i).toNat)
    case atStart => exact ⟨0, by omega, rfl, HasB.new w1 _ _, hq1.alloc (by omega) _, by simp, Lib.hid rfl⟩
    case round =>
      obtain ⟨k, hk, rfl, hA, hb, hsz, HA⟩ := hrel
      by_cases hlt : k < 4
      · have hv0 := decCells_zero [g0, g1, g2, g3] k 4 hlt hk
        have hc := HasB.cell hA k _ hv0
        have hf := HasB.free hA k
        obtain ⟨g, hg⟩ : ∃ g, g = ([g0, g1, g2, g3] : List (List UInt8))[k]'hlt := ⟨_, rfl⟩
        have hix := run_index_agg (P := Tryd.prog) 45 9 4 (strCells [g0, g1, g2, g3] 4) .i64 k _ Tryd.underlying45 hlt (strCells_get [g0, g1, g2, g3] 4 k hlt) (by intro w; simp [go_sem]) (by intro w; simp [go_sem]) wr
        rw [← hg, show strCells [g0, g1, g2, g3] 4 = #[.string ⟨g0.toArray⟩, .string ⟨g1.toArray⟩, .string ⟨g2.toArray⟩, .string ⟨g3.toArray⟩] from rfl] at hix
        have hgm : g ∈ partsL 46 s.data.toList := by rw [HG.out, hg]; exact List.getElem_mem _
        have hgs : (⟨g.toArray⟩ : ByteArray).size ≤ maxLen := Nat.le_trans (HSZ.out g hgm) (by simpa using hs)
        have HGK := Lib.hid hg
        have hdv := decV_lt g
        clear hg hv0
        by_cases hdc : isDec g = true
        · go_wp2_with (first | (go_at_call 33; refine (decimal_any _ hgs _).mono ?_; rintro e w2 ⟨rfl, hb2⟩; have hA2 := HasB.below hA hb2 hsz; have hc2 := HasB.cell hA2 k _ (decCells_zero [g0, g1, g2, g3] k 4 hlt hk); have hf2 := HasB.free hA2 k) | fail)
          go_roundw
          case rel =>
            refine ⟨k + 1, by omega, by go_num, ?_, (hb.trans (hb2.mono (by omega))).setCell (by simp; omega) _, by simp; exact Nat.lt_of_lt_of_le hsz hb2.size, Lib.hid ?_⟩
            · have := hA2.put k (.int .u8 (decV g : Nat))
              rw [HGK.out, decCells_set [g0, g1, g2, g3] k 4 hlt hlt, ← HGK.out] at this
              exact this
            · rw [List.take_succ_eq_append_getElem hlt, List.all_append, HA.out, ← HGK.out]
              simp [hdc]
          case measure => simp [intOf]; omega
        · have hdf : isDec g = false := by simpa using hdc
          go_wp2_with (first | (go_at_call 33; refine (decimal_any _ hgs _).mono ?_; rintro e w2 ⟨rfl, hb2⟩) | fail)
          have HF : isFour s.data.toList = false := by
            unfold isFour
            rw [Bool.and_eq_false_iff]
            refine .inr (Bool.eq_false_iff.2 (fun h => ?_))
            have := (List.all_eq_true.1 h) g hgm
            rw [hdf] at this; cases this
          go_ret2
          exact ⟨ret_sb (by unfold fourV; rw [HF]; rfl) HF.symm, hb.trans (hb2.mono (by omega))⟩
      · have hk4 : k = 4 := by omega
        subst hk4
        have HF : isFour s.data.toList = true := by
          unfold isFour
          rw [Bool.and_eq_true]
          exact ⟨hd, by rw [HG.out]; exact HA.out⟩
        have HB : Hid (fourB s.data.toList = [UInt8.ofNat (numD g0), UInt8.ofNat (numD g1), UInt8.ofNat (numD g2), UInt8.ofNat (numD g3)]) := Lib.hid (by unfold fourB; rw [HG.out]; rfl)
        have hal := List.all_eq_true.1 HA.out
        have hv : ∀ g ∈ [g0, g1, g2, g3], (decV g : Int) = ((UInt8.ofNat (numD g)).toNat : Int) := fun g hg => by
          have hd := hal g hg
          have := (digL_numD g hd).1
          unfold decV; rw [if_pos hd, UInt8.toNat_ofNat', Nat.mod_eq_of_lt this]
        have hcv : (convert 50 9 (.slice (some ⟨w1.heap.size, 0, none⟩) 4 4)).run Tryd.prog wr = .ok (.string ⟨(fourB s.data.toList).toArray⟩) wr := by
          have h := run_convert_bytes_back (P := Tryd.prog) wr 50 9 5 ⟨w1.heap.size, 0, none⟩ 4 (fourB s.data.toList) (by kernel_rfl) (by kernel_rfl) (by kernel_rfl) (fun j hj => by
            rw [addr_add]
            rw [HB.out] at hj
            have hj4 : j < 4 := by simpa using hj
            refine (HasB.cell hA j (.int .u8 (decV (([g0, g1, g2, g3] : List (List UInt8))[j]'hj4) : Nat)) ?_).trans ?_
            · unfold decCells
              simp [hj4]
              match j, hj4 with
              | 0, _ => rfl
              | 1, _ => rfl
              | 2, _ => rfl
              | 3, _ => rfl
            · rw [hv _ (List.getElem_mem _)]
              simp only [HB.out]
              match j, hj4 with
              | 0, _ => rfl
              | 1, _ => rfl
              | 2, _ => rfl
              | 3, _ => rfl)
          rw [HB.out] at h ⊢
          exact h
        have HFF := Lib.hid HF
        clear HF hal hv hA
        go_wp2
        go_ret2
        exact ⟨ret_sb (by unfold fourV; rw [if_pos HFF.out]) HFF.out.symm, hb⟩
  · have hd := decide_eq_false hp
    have HF : Hid (isFour s.data.toList = false) := Lib.hid (by unfold isFour; rw [hd]; rfl)
    go_wp2_with (first | (go_at_call 32; refine (split_any s 46 w.heap.size 4 45 hs (by omega) (by omega) _ hB).mono ?_; rintro e w1 ⟨gs, rfl, hK1, hA1, hg1⟩) | fail)
    go_ret2
    exact ⟨ret_sb (by unfold fourV; rw [HF.out]; rfl) HF.out.symm, hq.trans (hK1.below (by simp) (by rintro k rfl; exact Nat.le_refl _))⟩
/-- strings.Join of a row of the call's own. -/
theorem join_any (gs : List (List UInt8)) (n : Nat) (hn : gs.length = n) (bk : Nat) (T : TypeId) (sep : ByteArray) (w : World) (hA : HasB w bk T (strCells gs n)) (hn2 : n ≤ 1000) (hlen : (Lib.join gs sep.data.toList).length ≤ 140737488355328) :
    Calls Tryd.prog 35 #[.slice (some ⟨bk, 0, none⟩) n n, .string sep] w fun e w' => e = .returned (.string ⟨(Lib.join gs sep.data.toList).toArray⟩) ∧ Below w.heap.size w w' := by
  subst hn
  have hm : (gs.map fun g => (⟨g.toArray⟩ : ByteArray)).map (·.data.toList) = gs := by
    rw [List.map_map]
    conv => rhs; rw [← List.map_id gs]
    apply List.map_congr_left; intros; rfl
  have h := Tryd.strings_Join bk 0 gs.length (gs.map fun g => ⟨g.toArray⟩) sep w (fun j x hx => by
    rw [List.getElem?_map] at hx
    cases hg : gs[j]? with
    | none => rw [hg] at hx; cases hx
    | some g =>
      rw [hg] at hx
      obtain ⟨hj, rfl⟩ := List.getElem?_eq_some_iff.1 hg
      cases hx
      rw [Nat.zero_add]
      exact HasB.cell hA j _ (strCells_get gs _ j hj)) hA.lt (by rw [List.length_map]; omega) (by rw [List.length_map]; exact Nat.le_refl _) (by rw [hm]; exact hlen)
  rw [List.length_map, hm] at h
  exact h
theorem join_nil (gs : List (List UInt8)) : Lib.join gs [] = gs.flatten := by
  cases gs with
  | nil => rfl
  | cons g r => rw [Lib.join_cons]; simp [Lib.joinTail]
theorem isSix_no {l : List UInt8} (h : ¬ ((partsL 58 l).length = 8 ∧ ∀ g ∈ partsL 58 l, g.length = 4)) : isSix l = false ∧ sixV l = [] := by
  have h1 : isSix l = false := by
    cases hb : isSix l with
    | false => rfl
    | true =>
      unfold isSix at hb
      rw [Bool.and_eq_true, Bool.and_eq_true] at hb
      exact absurd ⟨of_decide_eq_true hb.1.1, fun g hg => of_decide_eq_true ((List.all_eq_true.1 hb.1.2) g hg)⟩ h
  exact ⟨h1, by unfold sixV; rw [h1]; rfl⟩
theorem isSix_is {l : List UInt8} (h1 : (partsL 58 l).length = 8) (h2 : ∀ g ∈ partsL 58 l, g.length = 4) : isSix l = unhexOk (partsL 58 l).flatten ∧ sixV l = unhexV (partsL 58 l).flatten := by
  have e : isSix l = unhexOk (partsL 58 l).flatten := by
    unfold isSix
    rw [decide_eq_true h1, List.all_eq_true.2 (fun g hg => decide_eq_true (h2 g hg))]; simp
  refine ⟨e, ?_⟩
  unfold sixV sixB
  rw [e]
  cases h : unhexL (partsL 58 l).flatten with
  | none => rw [(unhex_none h).1]; simp
  | some r => rw [(unhex_some h).2]; rfl
theorem readSix_any (s : ByteArray) (hs : s.size ≤ maxLen) (w : World) :
    Calls Tryd.prog 22 #[.string s] w fun e w' => e = .returned (.tuple #[.string ⟨(sixV s.data.toList).toArray⟩, .bool (isSix s.data.toList)]) ∧ Below w.heap.size w w' := by
  have hB := HasB.new w 51 (strCells [] 8)
  have hq : Below w.heap.size w (w.alloc (.cells (strCells [] 8) 51)) := (Below.refl _ _).alloc (Nat.le_refl _) _
  rw [str8] at hq
  go_enter Tryd.func22, Tryd.ntmps22
  by_cases hp : (partsL 58 s.data.toList).length = 8
  · have hd := decide_eq_true hp
    obtain ⟨g0, g1, g2, g3, g4, g5, g6, g7, hgs⟩ := eight_parts _ hp
    have HG := Lib.hid hgs
    have HSZ := Lib.hid (parts_size 58 s.data.toList)
    clear hgs
    go_wp2_with (first | (go_at_call 32; refine (split_any s 58 w.heap.size 8 51 hs (by omega) (by omega) _ hB).mono ?_; rintro e w1 ⟨gs, rfl, hK1, hA1, hg1⟩; obtain rfl : gs = [g0, g1, g2, g3, g4, g5, g6, g7] := (hg1 hp).trans HG.out; clear hg1; have hs1 := hK1.size; have HK1 := Lib.hid hK1; clear hK1; have c0 := HasB.cell hA1 0 _ (strCells_get [g0, g1, g2, g3, g4, g5, g6, g7] 8 0 (by simp)); have c1 := HasB.cell hA1 1 _ (strCells_get [g0, g1, g2, g3, g4, g5, g6, g7] 8 1 (by simp)); have c2 := HasB.cell hA1 2 _ (strCells_get [g0, g1, g2, g3, g4, g5, g6, g7] 8 2 (by simp)); have c3 := HasB.cell hA1 3 _ (strCells_get [g0, g1, g2, g3, g4, g5, g6, g7] 8 3 (by simp)); have c4 := HasB.cell hA1 4 _ (strCells_get [g0, g1, g2, g3, g4, g5, g6, g7] 8 4 (by simp)); have c5 := HasB.cell hA1 5 _ (strCells_get [g0, g1, g2, g3, g4, g5, g6, g7] 8 5 (by simp)); have c6 := HasB.cell hA1 6 _ (strCells_get [g0, g1, g2, g3, g4, g5, g6, g7] 8 6 (by simp)); have c7 := HasB.cell hA1 7 _ (strCells_get [g0, g1, g2, g3, g4, g5, g6, g7] 8 7 (by simp))) | fail)
    clear c0 c1 c2 c3 c4 c5 c6 c7
    have hq1 : Below w.heap.size w w1 := hq.trans (HK1.out.below (by simp) (by rintro k rfl; exact Nat.le_refl _))
    have hz1 : w.heap.size < w1.heap.size := by simp at hs1; omega
    go_loopw [12] (fun i wr => ∃ k : Nat, k ≤ 8 ∧ i = .int .i64 k ∧ wr = w1 ∧ Hid (∀ g ∈ ([g0, g1, g2, g3, g4, g5, g6, g7].take k), g.length = 4)) (fun i _ => 8 - (intOf i).toNat)
    case atStart => exact ⟨0, by omega, rfl, rfl, Lib.hid (by simp)⟩
    case round =>
      obtain ⟨k, hk, rfl, rfl, HA⟩ := hrel
      by_cases hlt : k < 8
      · obtain ⟨g, hg⟩ : ∃ g, g = ([g0, g1, g2, g3, g4, g5, g6, g7] : List (List UInt8))[k]'hlt := ⟨_, rfl⟩
        have hix := run_index_agg (P := Tryd.prog) 51 9 8 (strCells [g0, g1, g2, g3, g4, g5, g6, g7] 8) .i64 k _ Tryd.underlying51 hlt (strCells_get [g0, g1, g2, g3, g4, g5, g6, g7] 8 k hlt) (by intro w; simp [go_sem]) (by intro w; simp [go_sem]) wr
        rw [← hg, show strCells [g0, g1, g2, g3, g4, g5, g6, g7] 8 = #[.string ⟨g0.toArray⟩, .string ⟨g1.toArray⟩, .string ⟨g2.toArray⟩, .string ⟨g3.toArray⟩, .string ⟨g4.toArray⟩, .string ⟨g5.toArray⟩, .string ⟨g6.toArray⟩, .string ⟨g7.toArray⟩] from rfl] at hix
        have hgm : g ∈ partsL 58 s.data.toList := by rw [HG.out, hg]; exact List.getElem_mem _
        have hgs : g.length ≤ maxLen := Nat.le_trans (HSZ.out g hgm) (by simpa using hs)
        have hsz : (⟨g.toArray⟩ : ByteArray).size = g.length := by simp [ByteArray.size]
        have HGK := Lib.hid hg
        unfold maxLen at hgs
        clear hg
        by_cases hl4 : g.length = 4
        · have hl4i : ((g.length : Int) != 4) = false := by simp; omega
          have HL4 := Lib.hid hl4
          clear hl4
          go_wp2
          go_roundw
          case rel =>
            refine ⟨k + 1, by omega, by go_num, trivial, Lib.hid ?_⟩
            intro x hx
            rw [List.take_succ_eq_append_getElem hlt, ← HGK.out] at hx
            rcases List.mem_append.1 hx with hx | hx
            · exact HA.out x hx
            · rw [List.mem_singleton.1 hx]; exact HL4.out
          case measure => simp [intOf]; omega
        · have hl4i : ((g.length : Int) != 4) = true := by simp; omega
          have HN := Lib.hid (isSix_no (l := s.data.toList) (fun h => hl4 (h.2 g hgm)))
          clear hl4
          go_wp2
          go_ret2
          exact ⟨ret_sb (by rw [HN.out.2]) HN.out.1.symm, hq1⟩
      · have hk8 : k = 8 := by omega
        subst hk8
        have hall : ∀ g ∈ partsL 58 s.data.toList, g.length = 4 := by rw [HG.out]; exact HA.out
        have HN := Lib.hid (isSix_is hp hall)
        have hjl : (Lib.join [g0, g1, g2, g3, g4, g5, g6, g7] []).length = 32 := by
          rw [join_nil]; exact flat_len 4 [g0, g1, g2, g3, g4, g5, g6, g7] HA.out
        have HJ : Hid ((partsL 58 s.data.toList).flatten = Lib.join [g0, g1, g2, g3, g4, g5, g6, g7] []) := Lib.hid (by rw [join_nil, HG.out])
        clear hall
        go_wp2_with (first | (go_at_call 35; refine (join_any [g0, g1, g2, g3, g4, g5, g6, g7] 8 rfl w.heap.size 51 ⟨#[]⟩ _ hA1 (by omega) (by rw [show (⟨#[]⟩ : ByteArray).data.toList = [] from rfl, hjl]; decide)).mono ?_; rintro e w2 ⟨rfl, hb2⟩) | (go_at_call 34; refine (unhex_any _ (by simp [ByteArray.size, hjl]) _).mono ?_; rintro e w3 ⟨rfl, hb3⟩) | fail)
        go_ret2
        exact ⟨ret_sb (by rw [HN.out.2, HJ.out]) (by rw [HN.out.1, HJ.out]), hq1.trans ((hb2.trans (hb3.mono hb2.size)).mono (by omega))⟩
  · have hd := decide_eq_false hp
    have HF := Lib.hid (isSix_no (l := s.data.toList) (fun h => hp h.1))
    go_wp2_with (first | (go_at_call 32; refine (split_any s 58 w.heap.size 8 51 hs (by omega) (by omega) _ hB).mono ?_; rintro e w1 ⟨gs, rfl, hK1, hA1, hg1⟩) | fail)
    go_ret2
    exact ⟨ret_sb (by rw [HF.out.2]) HF.out.1.symm, hq.trans (hK1.below (by simp) (by rintro k rfl; exact Nat.le_refl _))⟩
theorem readB_fs (l : List UInt8) : (isFour l = true → fourV l = readB l) ∧ (isFour l = false → isSix l = true → sixV l = readB l) := by
  refine ⟨fun h => ?_, fun h h6 => ?_⟩
  · unfold fourV; rw [if_pos h, readB_four h]
  · unfold sixV; rw [if_pos h6, readB_six h h6]
theorem fourV_len (l : List UInt8) : (fourV l).length ≤ 4 := by
  unfold fourV; split
  · rename_i h; rw [(four_text l h).1]; decide
  · simp
theorem sixV_len (l : List UInt8) : (sixV l).length ≤ 16 := by
  unfold sixV; split
  · rename_i h; rw [(six_text l h).1]; decide
  · simp
theorem below_put {B : Nat} {a w : World} (h : Below B a w) (g i : Nat) (v : Value) (hg : B ≤ g) : Below B a (w.setCell ⟨g, i, none⟩ v) := Below.setCell h hg v
theorem read_any (s : ByteArray) (hs : s.size ≤ maxLen) (w : World) :
    Calls Tryd.prog 8 #[.string s] w fun e w' => e = .returned (.tuple #[.agg #[.bool (gV (readB s.data.toList)), .int .u64 (gHi (readB s.data.toList)), .int .u64 (gLo (readB s.data.toList))], .bool (gOk (readB s.data.toList))]) ∧ Below w.heap.size w w' := by
  have HR := Lib.hid (readB_fs s.data.toList)
  have h4 := fourV_len s.data.toList
  have h6 := sixV_len s.data.toList
  have hm4 : (⟨(fourV s.data.toList).toArray⟩ : ByteArray).size ≤ maxLen := Nat.le_trans (by simpa [ByteArray.size] using h4) (by decide)
  have hm6 : (⟨(sixV s.data.toList).toArray⟩ : ByteArray).size ≤ maxLen := Nat.le_trans (by simpa [ByteArray.size] using h6) (by decide)
  clear h4 h6
  have hq : Below w.heap.size w (w.alloc (.cells #[.bool false, .int .u64 0, .int .u64 0] 24)) := (Below.refl _ _).alloc (Nat.le_refl _) _
  have hX := HasB.new w 24 #[.bool false, .int .u64 0, .int .u64 0]
  have hq2 : Below w.heap.size w w := Below.refl _ _
  cases hf : isFour s.data.toList with
  | true =>
    have h1 := HR.out.1 hf
    rw [← h1]
    clear hm6 HR h1
    go_enter Tryd.func8, Tryd.ntmps8
    go_wp2_with (first | (go_at_call 21; refine (readFour_any s hs _).mono ?_; rintro e w1 ⟨rfl, hb1⟩; replace hX := HasB.below hX hb1 hX.lt; replace hq := hq.trans (hb1.mono (Nat.le_of_lt (HasB.new w _ _).lt))) | (go_at_call 6; refine (get_addr _ hm4 _).mono ?_; rintro e w2 ⟨rfl, hb2⟩; replace hq := hq.trans (hb2.mono (Nat.le_of_lt hX.lt)); replace hX := HasB.below hX hb2 hX.lt; have c0 := HasB.cell hX 0 _ rfl; have c1 := HasB.cell hX 1 _ rfl; have c2 := HasB.cell hX 2 _ rfl; have f0 := HasB.free hX 0; have f1 := HasB.free hX 1; have f2 := HasB.free hX 2) | fail)
    have hX3 := ((hX.put 0 (.bool (gV (fourV s.data.toList)))).put 1 (.int .u64 (gHi (fourV s.data.toList)))).put 2 (.int .u64 (gLo (fourV s.data.toList)))
    rw [show ((#[Value.bool false, .int .u64 0, .int .u64 0].setIfInBounds 0 (.bool (gV (fourV s.data.toList)))).setIfInBounds 1 (.int .u64 (gHi (fourV s.data.toList)))).setIfInBounds 2 (.int .u64 (gLo (fourV s.data.toList))) = #[Value.bool (gV (fourV s.data.toList)), .int .u64 (gHi (fourV s.data.toList)), .int .u64 (gLo (fourV s.data.toList))] from rfl] at hX3
    have hq3 := below_put (below_put (below_put hq w.heap.size 0 (.bool (gV (fourV s.data.toList))) (Nat.le_refl _)) w.heap.size 1 (.int .u64 (gHi (fourV s.data.toList))) (Nat.le_refl _)) w.heap.size 2 (.int .u64 (gLo (fourV s.data.toList))) (Nat.le_refl _)
    clear c0 c1 c2 f0 f1 f2 hX hq
    revert hX3 hq3
    generalize World.setCell (World.setCell (World.setCell _ _ _) _ _) _ _ = W
    intro hX3 hq3
    have c0 := HasB.cell hX3 0 (.bool (gV (fourV s.data.toList))) rfl
    have c1 := HasB.cell hX3 1 (.int .u64 (gHi (fourV s.data.toList))) rfl
    have c2 := HasB.cell hX3 2 (.int .u64 (gLo (fourV s.data.toList))) rfl
    try simp only [Exit.inBlock, Exit.then]
    refine bodyPost_ret (v := .tuple #[.agg #[.bool (gV (fourV s.data.toList)), .int .u64 (gHi (fourV s.data.toList)), .int .u64 (gLo (fourV s.data.toList))], .bool (gOk (fourV s.data.toList))]) (by simp [results, Tryd.results8, go_sem, c0, c1, c2]; try rfl) rfl ?_
    exact ⟨rfl, hq3⟩
  | false =>
    cases h6 : isSix s.data.toList with
    | true =>
      have h1 := HR.out.2 hf h6
      rw [← h1]
      clear hm4 HR h1
      go_enter Tryd.func8, Tryd.ntmps8
      go_wp2_with (first | (go_at_call 21; refine (readFour_any s hs _).mono ?_; rintro e w1 ⟨rfl, hb1⟩; replace hX := HasB.below hX hb1 hX.lt; replace hq := hq.trans (hb1.mono (Nat.le_of_lt (HasB.new w _ _).lt))) | (go_at_call 22; refine (readSix_any s hs _).mono ?_; rintro e w3 ⟨rfl, hb3⟩; replace hq := hq.trans (hb3.mono (Nat.le_of_lt hX.lt)); replace hX := HasB.below hX hb3 hX.lt) | (go_at_call 6; refine (get_addr _ hm6 _).mono ?_; rintro e w2 ⟨rfl, hb2⟩; replace hq := hq.trans (hb2.mono (Nat.le_of_lt hX.lt)); replace hX := HasB.below hX hb2 hX.lt; have c0 := HasB.cell hX 0 _ rfl; have c1 := HasB.cell hX 1 _ rfl; have c2 := HasB.cell hX 2 _ rfl; have f0 := HasB.free hX 0; have f1 := HasB.free hX 1; have f2 := HasB.free hX 2) | fail)
      have hX3 := ((hX.put 0 (.bool (gV (sixV s.data.toList)))).put 1 (.int .u64 (gHi (sixV s.data.toList)))).put 2 (.int .u64 (gLo (sixV s.data.toList)))
      rw [show ((#[Value.bool false, .int .u64 0, .int .u64 0].setIfInBounds 0 (.bool (gV (sixV s.data.toList)))).setIfInBounds 1 (.int .u64 (gHi (sixV s.data.toList)))).setIfInBounds 2 (.int .u64 (gLo (sixV s.data.toList))) = #[Value.bool (gV (sixV s.data.toList)), .int .u64 (gHi (sixV s.data.toList)), .int .u64 (gLo (sixV s.data.toList))] from rfl] at hX3
      have hq3 := below_put (below_put (below_put hq w.heap.size 0 (.bool (gV (sixV s.data.toList))) (Nat.le_refl _)) w.heap.size 1 (.int .u64 (gHi (sixV s.data.toList))) (Nat.le_refl _)) w.heap.size 2 (.int .u64 (gLo (sixV s.data.toList))) (Nat.le_refl _)
      clear c0 c1 c2 f0 f1 f2 hX hq
      revert hX3 hq3
      generalize World.setCell (World.setCell (World.setCell _ _ _) _ _) _ _ = W
      intro hX3 hq3
      have c0 := HasB.cell hX3 0 (.bool (gV (sixV s.data.toList))) rfl
      have c1 := HasB.cell hX3 1 (.int .u64 (gHi (sixV s.data.toList))) rfl
      have c2 := HasB.cell hX3 2 (.int .u64 (gLo (sixV s.data.toList))) rfl
      try simp only [Exit.inBlock, Exit.then]
      refine bodyPost_ret (v := .tuple #[.agg #[.bool (gV (sixV s.data.toList)), .int .u64 (gHi (sixV s.data.toList)), .int .u64 (gLo (sixV s.data.toList))], .bool (gOk (sixV s.data.toList))]) (by simp [results, Tryd.results8, go_sem, c0, c1, c2]; try rfl) rfl ?_
      exact ⟨rfl, hq3⟩
    | false =>
      have h1 := readB_no hf h6
      rw [h1]
      clear hm4 hm6 HR h1
      go_enter Tryd.func8, Tryd.ntmps8
      go_wp2_with (first | (go_at_call 21; refine (readFour_any s hs _).mono ?_; rintro e w1 ⟨rfl, hb1⟩; replace hX := HasB.below hX hb1 hX.lt; replace hq := hq.trans (hb1.mono (Nat.le_of_lt (HasB.new w _ _).lt))) | (go_at_call 22; refine (readSix_any s hs _).mono ?_; rintro e w3 ⟨rfl, hb3⟩; replace hq := hq.trans (hb3.mono (Nat.le_of_lt hX.lt)); replace hX := HasB.below hX hb3 hX.lt; have c0 := HasB.cell hX 0 _ rfl; have c1 := HasB.cell hX 1 _ rfl; have c2 := HasB.cell hX 2 _ rfl; have f0 := HasB.free hX 0; have f1 := HasB.free hX 1; have f2 := HasB.free hX 2) | fail)
      have hX3 := ((hX.put 0 (.bool false)).put 1 (.int .u64 0)).put 2 (.int .u64 0)
      rw [show ((#[Value.bool false, .int .u64 0, .int .u64 0].setIfInBounds 0 (.bool false)).setIfInBounds 1 (.int .u64 0)).setIfInBounds 2 (.int .u64 0) = #[Value.bool false, .int .u64 0, .int .u64 0] from rfl] at hX3
      have hq3 := below_put (below_put (below_put hq w.heap.size 0 (.bool false) (Nat.le_refl _)) w.heap.size 1 (.int .u64 0) (Nat.le_refl _)) w.heap.size 2 (.int .u64 0) (Nat.le_refl _)
      clear c0 c1 c2 f0 f1 f2 hX hq
      revert hX3 hq3
      generalize World.setCell (World.setCell (World.setCell _ _ _) _ _) _ _ = W
      intro hX3 hq3
      have c0 := HasB.cell hX3 0 (.bool false) rfl
      have c1 := HasB.cell hX3 1 (.int .u64 0) rfl
      have c2 := HasB.cell hX3 2 (.int .u64 0) rfl
      try simp only [Exit.inBlock, Exit.then]
      refine bodyPost_ret (v := .tuple #[.agg #[.bool false, .int .u64 0, .int .u64 0], .bool false]) (by simp [results, Tryd.results8, go_sem, c0, c1, c2]; try rfl) rfl ?_
      exact ⟨rfl, hq3⟩
end Go.Proofs.YtohnojdofilpnaaDoor

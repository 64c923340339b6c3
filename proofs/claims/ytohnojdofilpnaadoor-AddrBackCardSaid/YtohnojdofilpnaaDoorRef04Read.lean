/- The contracts of cloakroomref04: Read. -/
import Derived.Test.YtohnojdofilpnaaDoorRef04Text
namespace Go.Proofs.YtohnojdofilpnaaDoor.R04
open Go.RowKit
set_option linter.unusedVariables false

def b4 (l : List UInt8) (k : Nat) : List UInt8 := ((partsL 46 l).take k).map fun g => UInt8.ofNat (numR g % 256)
def b6 (l : List UInt8) (k : Nat) : List UInt8 := (((partsL 58 l).take k).map unhexV).flatten
theorem b4_succ (l : List UInt8) (k : Nat) (h : k < (partsL 46 l).length) : b4 l (k + 1) = b4 l k ++ putL (numR (partsL 46 l)[k] : Nat) 1 := by
  unfold b4
  rw [List.take_succ_eq_append_getElem h, List.map_append]
  unfold putL
  rw [if_pos (by omega)]; rfl
theorem b6_succ (l : List UInt8) (k : Nat) (h : k < (partsL 58 l).length) : b6 l (k + 1) = b6 l k ++ unhexV (partsL 58 l)[k] := by
  unfold b6
  rw [List.take_succ_eq_append_getElem h, List.map_append, List.flatten_append]; simp
theorem b4_len (l : List UInt8) (k : Nat) : (b4 l k).length ≤ k := by unfold b4; rw [List.length_map]; exact List.length_take_le _ _
theorem unhexV_len (l : List UInt8) : (unhexV l).length ≤ l.length := by
  cases h : unhexL l with
  | none => rw [(unhex_none h).1]; simp
  | some r => rw [(unhex_some h).1]; have := unhexL_length _ _ h; omega
theorem b6_len (l : List UInt8) (k : Nat) (hk : k ≤ (partsL 58 l).length) : (b6 l k).length ≤ l.length * k := by
  induction k with
  | zero => simp [b6]
  | succ k ih =>
    have := ih (by omega)
    rw [b6_succ l k (by omega), List.length_append, Nat.mul_succ]
    have h1 := unhexV_len (partsL 58 l)[k]
    have h2 := parts_size 58 l (partsL 58 l)[k] (List.getElem_mem _)
    omega
theorem numR_bd (s : List UInt8) : numR s < 5764607523034234880 := by
  have h := numR_K ⟨s.toArray⟩
  rw [show (⟨s.toArray⟩ : ByteArray).data.toList = s by simp] at h
  rw [h]; split
  · exact numK_bd _ _
  · omega
theorem ref_four (l : List UInt8) (h : (partsL 46 l).length = 4) : refB l = b4 l 4 := by
  unfold refB b4; rw [if_pos h, List.take_of_length_le (by omega)]
theorem ref_six (l : List UInt8) (h : ¬ (partsL 46 l).length = 4) (h8 : (partsL 58 l).length = 8) : refB l = b6 l 8 := by
  unfold refB b6; rw [if_neg h, if_pos h8, List.take_of_length_le (by omega)]
theorem ref_none (l : List UInt8) (h : ¬ (partsL 46 l).length = 4) (h8 : ¬ (partsL 58 l).length = 8) : refB l = [] := by
  unfold refB; rw [if_neg h, if_neg h8]
theorem partsN (s : ByteArray) (c : UInt8) (ci : Int) (n : Nat) (hn : (partsL c s.data.toList).length = n) (hci : ((c.toNat : Nat) : Int) = ci) (hs : s.size ≤ 1000) (w : World) :
    Calls Tryd.prog 23 #[.string s, .int .u8 ci] w fun e w' => ∃ g cap, e = .returned (.slice (some ⟨g, 0, none⟩) n cap) ∧ g < w'.heap.size ∧ Hid (∀ (j : Nat) (h : j < (partsL c s.data.toList).length), w'.cell? ⟨g, j, none⟩ = some (.string ⟨(partsL c s.data.toList)[j].toArray⟩)) ∧ Below w.heap.size w w' := by
  subst hci hn
  refine (parts_any s c hs w).mono ?_
  rintro e w' ⟨v, rfl, hS, hb⟩
  obtain ⟨g, cap, rfl, hg, hc⟩ := hS.some (partsL_len c _)
  exact ⟨g, cap, rfl, hg, Lib.hid hc, hb⟩
theorem getNone (w : World) : Calls Tryd.prog 7 #[.string ⟨#[]⟩] w fun e w' => e = .returned (.tuple #[.agg #[.bool false, .int .u64 0, .int .u64 0], .bool false]) ∧ Below w.heap.size w w' := get_addr ⟨#[]⟩ (Nat.zero_le _) w
set_option maxHeartbeats 1000000 in
theorem read_any (s : ByteArray) (hs : s.size ≤ 1000) (w : World) :
    Calls Tryd.prog 9 #[.string s] w fun e w' => e = .returned (.tuple #[.agg #[.bool (gV (readB s.data.toList)), .int .u64 (gHi (readB s.data.toList)), .int .u64 (gLo (readB s.data.toList))], .bool (gOk (readB s.data.toList))]) ∧ Below w.heap.size w w' := by
  have hsz : s.data.toList.length = s.size := by simp
  have HL := Lib.hid hsz
  have HR := Lib.hid (ref_read s.data.toList)
  clear hsz
  have hX := HasB.new w 24 #[.bool false, .int .u64 0, .int .u64 0]
  have hq : Below w.heap.size w (w.alloc (.cells #[.bool false, .int .u64 0, .int .u64 0] 24)) := (Below.refl _ _).alloc (Nat.le_refl _) _
  by_cases h4 : (partsL 46 s.data.toList).length = 4
  · have HB := Lib.hid (ref_four _ h4)
    go_enter Tryd.func9, Tryd.ntmps9
    go_wp2_with (first | (go_at_call 23; with_reducible refine (partsN s 46 46 4 h4 rfl hs _).mono ?_; rintro e w1 ⟨g, cap, rfl, hg, HC, hb1⟩; replace hq := hq.trans (hb1.mono (Nat.le_of_lt hX.lt)); replace hX := HasB.below hX hb1 hX.lt) | (go_at_call 23; with_reducible refine (partsN s 58 58 _ rfl rfl hs _).mono ?_; rintro e w2 ⟨g2, cap2, rfl, hg2, HC2, hb2⟩; replace hq := hq.trans (hb2.mono (Nat.le_of_lt hX.lt)); replace hX := HasB.below hX hb2 hX.lt; have z12 := hb2.size) | fail)
    have hz := hX.lt
    have HX := Lib.hid hX
    have HQ := Lib.hid hq
    clear hX hq
    go_loopw [4, 7] (fun b i wr => ∃ k : Nat, k ≤ 4 ∧ i = .int .i64 k ∧ b = .string ⟨(b4 s.data.toList k).toArray⟩ ∧ Below w2.heap.size w2 wr) (fun _ i _ => 4 - (intOf i).toNat)
    case atStart => exact ⟨0, by omega, rfl, rfl, Below.refl _ _⟩
    case round =>
      obtain ⟨k, hk, rfl, rfl, hw⟩ := hrel
      by_cases hlt : k < 4
      · have hk2 : k < (partsL 46 s.data.toList).length := by omega
        obtain ⟨x, hx⟩ : ∃ x, x = (partsL 46 s.data.toList)[k]'hk2 := ⟨_, rfl⟩
        have c0 : wr.cell? ⟨g, k, none⟩ = some (.string ⟨x.toArray⟩) := by
          rw [hx]; exact (hw.cell (p := ⟨g, k, none⟩) (Nat.lt_of_lt_of_le hg z12)).trans ((hb2.cell (p := ⟨g, k, none⟩) hg).trans (HC.out k hk2))
        have HN := Lib.hid (b4_succ s.data.toList k hk2)
        rw [← hx] at HN
        have hxl : (⟨x.toArray⟩ : ByteArray).size ≤ 1000 := by
          have h1 := parts_size 46 s.data.toList x (by rw [hx]; exact List.getElem_mem _)
          rw [HL.out] at h1
          exact Nat.le_trans (Nat.le_trans (by simp [ByteArray.size]) h1) hs
        have hnb := numR_bd x
        have hcv : IntKind.u64.wrap (numR x : Nat) = (numR x : Nat) := by rw [IntKind.wrap_u64]; omega
        have hbl := b4_len s.data.toList k
        have f1 : (9223372036854775807 < (b4 s.data.toList k).length + (putL (numR x : Nat) 1).length) = False := eq_false (by unfold putL; rw [if_pos (by omega), bigB_length]; simp; omega)
        clear hx hbl
        go_wp2_with (first | (go_at_call 25; refine (number_any _ hxl _).mono ?_; rintro e w5 ⟨rfl, rfl⟩) | (go_at_call 24; refine (R02.put_any (numR x : Nat) 1 (by omega) (by omega) _).mono ?_; rintro e w6 ⟨rfl, hb6⟩) | fail)
        go_roundw
        case rel => exact ⟨k + 1, by omega, by go_num, by rw [HN.out, ← str_app], hw.trans (hb6.mono hw.size)⟩
        case measure => simp [intOf]; omega
      · obtain rfl : k = 4 := by omega
        obtain ⟨Bs, hBs⟩ : ∃ Bs : ByteArray, Bs = ⟨(b4 s.data.toList 4).toArray⟩ := ⟨_, rfl⟩
        have HBs : Hid (Bs.data.toList = refB s.data.toList) := Lib.hid (by rw [HB.out, hBs])
        have hbz : Bs.size ≤ maxLen := by
          rw [hBs]; exact Nat.le_trans (by simpa [ByteArray.size] using b4_len s.data.toList 4) (by decide)
        rw [← hBs]
        have hq := HQ.out.trans (hw.mono (Nat.le_of_lt hz))
        have hX := HasB.below HX.out hw hz
        clear hBs
        have e0 := gHi_bd Bs.data.toList
        have e1 := gLo_bd Bs.data.toList
        have HTA : Hid (gOk Bs.data.toList = true → textA (gV Bs.data.toList) (gHi Bs.data.toList) (gLo Bs.data.toList) = textB Bs.data.toList) := Lib.hid (fun h => by unfold textA; rw [addrB_g _ h])
        have htext := text_any (gV Bs.data.toList) (gHi Bs.data.toList) (gLo Bs.data.toList) e0.1 e0.2 e1.1 e1.2
        clear e0 e1
        rcases HR.out with ⟨r1, r2, r3⟩ | ⟨r1, r2⟩
        · have ho : gOk Bs.data.toList = true := by rw [HBs.out]; exact r1
          have R3 := Lib.hid r3
          rw [HTA.out ho, HBs.out, r2, Lib.mk_data, ← HBs.out] at htext
          clear r1 r2 r3
          go_wp2_with (first | (go_at_call 7; refine (get_addr Bs hbz _).mono ?_; rintro e w3 ⟨rfl, hb3⟩; replace hq := hq.trans (hb3.mono (Nat.le_of_lt hX.lt)); replace hX := HasB.below hX hb3 hX.lt; have hY := HasB.new w3 24 #[.bool (gV Bs.data.toList), .int .u64 (gHi Bs.data.toList), .int .u64 (gLo Bs.data.toList)]; have d0 := HasB.cell hY 0 (.bool (gV Bs.data.toList)) rfl; have d1 := HasB.cell hY 1 (.int .u64 (gHi Bs.data.toList)) rfl; have d2 := HasB.cell hY 2 (.int .u64 (gLo Bs.data.toList)) rfl; have hq0 : Below w.heap.size w (w3.alloc (.cells #[.bool (gV Bs.data.toList), .int .u64 (gHi Bs.data.toList), .int .u64 (gLo Bs.data.toList)] 24)) := hq.alloc (Nat.le_of_lt hX.lt) _; clear hq; have hq := hq0; clear hq0; replace hX := HasB.alloc hX (.cells #[.bool (gV Bs.data.toList), .int .u64 (gHi Bs.data.toList), .int .u64 (gLo Bs.data.toList)] 24)) | (go_at_call 15; refine (htext _).mono ?_; rintro e w4 ⟨rfl, hb4⟩; clear d0 d1 d2; replace hq := hq.trans (hb4.mono (Nat.le_of_lt hX.lt)); replace hX := HasB.below hX hb4 hX.lt; replace hY := HasB.below hY hb4 hY.lt; have d0 := HasB.cell hY 0 (.bool (gV Bs.data.toList)) rfl; have d1 := HasB.cell hY 1 (.int .u64 (gHi Bs.data.toList)) rfl; have d2 := HasB.cell hY 2 (.int .u64 (gLo Bs.data.toList)) rfl; have c0 := HasB.cell hX 0 _ rfl; have c1 := HasB.cell hX 1 _ rfl; have c2 := HasB.cell hX 2 _ rfl; have f0 := HasB.free hX 0; have f1 := HasB.free hX 1; have f2 := HasB.free hX 2) | fail)
          have hX3 := ((hX.put 0 (.bool (gV Bs.data.toList))).put 1 (.int .u64 (gHi Bs.data.toList))).put 2 (.int .u64 (gLo Bs.data.toList))
          rw [show ((#[Value.bool false, .int .u64 0, .int .u64 0].setIfInBounds 0 (.bool (gV Bs.data.toList))).setIfInBounds 1 (.int .u64 (gHi Bs.data.toList))).setIfInBounds 2 (.int .u64 (gLo Bs.data.toList)) = #[(.bool (gV Bs.data.toList)), (.int .u64 (gHi Bs.data.toList)), (.int .u64 (gLo Bs.data.toList))] from rfl] at hX3
          have hq3 := below_put (below_put (below_put hq w.heap.size 0 (.bool (gV Bs.data.toList)) (Nat.le_refl _)) w.heap.size 1 (.int .u64 (gHi Bs.data.toList)) (Nat.le_refl _)) w.heap.size 2 (.int .u64 (gLo Bs.data.toList)) (Nat.le_refl _)
          clear c0 c1 c2 f0 f1 f2 hX hq
          revert hX3 hq3
          generalize World.setCell (World.setCell (World.setCell _ _ _) _ _) _ _ = W
          intro hX3 hq3
          have c0 := HasB.cell hX3 0 ((.bool (gV Bs.data.toList))) rfl
          have c1 := HasB.cell hX3 1 ((.int .u64 (gHi Bs.data.toList))) rfl
          have c2 := HasB.cell hX3 2 ((.int .u64 (gLo Bs.data.toList))) rfl
          try simp only [Exit.inBlock, Exit.then]
          refine bodyPost_ret (v := .tuple #[.agg #[(.bool (gV Bs.data.toList)), (.int .u64 (gHi Bs.data.toList)), (.int .u64 (gLo Bs.data.toList))], .bool true]) (by simp [results, Tryd.results9, go_sem, c0, c1, c2]; try rfl) rfl ?_
          exact ⟨by rw [R3.out, ← HBs.out, ho], hq3⟩
        · have R2 := Lib.hid r2
          clear r2
          cases ho : gOk Bs.data.toList with
          | false =>
            clear r1
            go_wp2_with (first | (go_at_call 7; refine (get_addr Bs hbz _).mono ?_; rintro e w3 ⟨rfl, hb3⟩; replace hq := hq.trans (hb3.mono (Nat.le_of_lt hX.lt)); replace hX := HasB.below hX hb3 hX.lt; have hY := HasB.new w3 24 #[.bool (gV Bs.data.toList), .int .u64 (gHi Bs.data.toList), .int .u64 (gLo Bs.data.toList)]; have d0 := HasB.cell hY 0 (.bool (gV Bs.data.toList)) rfl; have d1 := HasB.cell hY 1 (.int .u64 (gHi Bs.data.toList)) rfl; have d2 := HasB.cell hY 2 (.int .u64 (gLo Bs.data.toList)) rfl; have hq0 : Below w.heap.size w (w3.alloc (.cells #[.bool (gV Bs.data.toList), .int .u64 (gHi Bs.data.toList), .int .u64 (gLo Bs.data.toList)] 24)) := hq.alloc (Nat.le_of_lt hX.lt) _; clear hq; have hq := hq0; clear hq0; replace hX := HasB.alloc hX (.cells #[.bool (gV Bs.data.toList), .int .u64 (gHi Bs.data.toList), .int .u64 (gLo Bs.data.toList)] 24); have c0 := HasB.cell hX 0 _ rfl; have c1 := HasB.cell hX 1 _ rfl; have c2 := HasB.cell hX 2 _ rfl; have f0 := HasB.free hX 0; have f1 := HasB.free hX 1; have f2 := HasB.free hX 2) | fail)
            have hX3 := ((hX.put 0 (.bool false)).put 1 (.int .u64 0)).put 2 (.int .u64 0)
            rw [show ((#[Value.bool false, .int .u64 0, .int .u64 0].setIfInBounds 0 (.bool false)).setIfInBounds 1 (.int .u64 0)).setIfInBounds 2 (.int .u64 0) = #[(.bool false), (.int .u64 0), (.int .u64 0)] from rfl] at hX3
            have hq3 := below_put (below_put (below_put hq w.heap.size 0 (.bool false) (Nat.le_refl _)) w.heap.size 1 (.int .u64 0) (Nat.le_refl _)) w.heap.size 2 (.int .u64 0) (Nat.le_refl _)
            clear c0 c1 c2 f0 f1 f2 hX hq
            revert hX3 hq3
            generalize World.setCell (World.setCell (World.setCell _ _ _) _ _) _ _ = W
            intro hX3 hq3
            have c0 := HasB.cell hX3 0 ((.bool false)) rfl
            have c1 := HasB.cell hX3 1 ((.int .u64 0)) rfl
            have c2 := HasB.cell hX3 2 ((.int .u64 0)) rfl
            try simp only [Exit.inBlock, Exit.then]
            refine bodyPost_ret (v := .tuple #[.agg #[(.bool false), (.int .u64 0), (.int .u64 0)], .bool false]) (by simp [results, Tryd.results9, go_sem, c0, c1, c2]; try rfl) rfl ?_
            exact ⟨by rw [R2.out]; rfl, hq3⟩
          | true =>
            obtain ⟨TS, hTS⟩ : ∃ TS : ByteArray, TS = ⟨(textA (gV Bs.data.toList) (gHi Bs.data.toList) (gLo Bs.data.toList)).toArray⟩ := ⟨_, rfl⟩
            rw [← hTS] at htext
            have hne : (TS.toList == s.toList) = false := by
              rw [Lib.toList_data, Lib.toList_data, hTS, HTA.out ho]
              have : textB Bs.data.toList ≠ s.data.toList := fun h => r1 ⟨by rw [← HBs.out]; exact ho, by rw [← HBs.out]; exact h⟩
              simpa using this
            clear hTS r1
            go_wp2_with (first | (go_at_call 7; refine (get_addr Bs hbz _).mono ?_; rintro e w3 ⟨rfl, hb3⟩; replace hq := hq.trans (hb3.mono (Nat.le_of_lt hX.lt)); replace hX := HasB.below hX hb3 hX.lt; have hY := HasB.new w3 24 #[.bool (gV Bs.data.toList), .int .u64 (gHi Bs.data.toList), .int .u64 (gLo Bs.data.toList)]; have d0 := HasB.cell hY 0 (.bool (gV Bs.data.toList)) rfl; have d1 := HasB.cell hY 1 (.int .u64 (gHi Bs.data.toList)) rfl; have d2 := HasB.cell hY 2 (.int .u64 (gLo Bs.data.toList)) rfl; have hq0 : Below w.heap.size w (w3.alloc (.cells #[.bool (gV Bs.data.toList), .int .u64 (gHi Bs.data.toList), .int .u64 (gLo Bs.data.toList)] 24)) := hq.alloc (Nat.le_of_lt hX.lt) _; clear hq; have hq := hq0; clear hq0; replace hX := HasB.alloc hX (.cells #[.bool (gV Bs.data.toList), .int .u64 (gHi Bs.data.toList), .int .u64 (gLo Bs.data.toList)] 24)) | (go_at_call 15; refine (htext _).mono ?_; rintro e w4 ⟨rfl, hb4⟩; clear d0 d1 d2; replace hq := hq.trans (hb4.mono (Nat.le_of_lt hX.lt)); replace hX := HasB.below hX hb4 hX.lt; replace hY := HasB.below hY hb4 hY.lt; have d0 := HasB.cell hY 0 (.bool (gV Bs.data.toList)) rfl; have d1 := HasB.cell hY 1 (.int .u64 (gHi Bs.data.toList)) rfl; have d2 := HasB.cell hY 2 (.int .u64 (gLo Bs.data.toList)) rfl; have c0 := HasB.cell hX 0 _ rfl; have c1 := HasB.cell hX 1 _ rfl; have c2 := HasB.cell hX 2 _ rfl; have f0 := HasB.free hX 0; have f1 := HasB.free hX 1; have f2 := HasB.free hX 2) | fail)
            have hX3 := ((hX.put 0 (.bool false)).put 1 (.int .u64 0)).put 2 (.int .u64 0)
            rw [show ((#[Value.bool false, .int .u64 0, .int .u64 0].setIfInBounds 0 (.bool false)).setIfInBounds 1 (.int .u64 0)).setIfInBounds 2 (.int .u64 0) = #[(.bool false), (.int .u64 0), (.int .u64 0)] from rfl] at hX3
            have hq3 := below_put (below_put (below_put hq w.heap.size 0 (.bool false) (Nat.le_refl _)) w.heap.size 1 (.int .u64 0) (Nat.le_refl _)) w.heap.size 2 (.int .u64 0) (Nat.le_refl _)
            clear c0 c1 c2 f0 f1 f2 hX hq
            revert hX3 hq3
            generalize World.setCell (World.setCell (World.setCell _ _ _) _ _) _ _ = W
            intro hX3 hq3
            have c0 := HasB.cell hX3 0 ((.bool false)) rfl
            have c1 := HasB.cell hX3 1 ((.int .u64 0)) rfl
            have c2 := HasB.cell hX3 2 ((.int .u64 0)) rfl
            try simp only [Exit.inBlock, Exit.then]
            refine bodyPost_ret (v := .tuple #[.agg #[(.bool false), (.int .u64 0), (.int .u64 0)], .bool false]) (by simp [results, Tryd.results9, go_sem, c0, c1, c2]; try rfl) rfl ?_
            exact ⟨by rw [R2.out]; rfl, hq3⟩
  · have h4i : (((partsL 46 s.data.toList).length : Int) == 4) = false := by simp; omega
    by_cases h8 : (partsL 58 s.data.toList).length = 8
    · have HB := Lib.hid (ref_six _ h4 h8)
      clear h4
      go_enter Tryd.func9, Tryd.ntmps9
      go_wp2_with (first | (go_at_call 23; with_reducible refine (partsN s 46 46 _ rfl rfl hs _).mono ?_; rintro e w1 ⟨g, cap, rfl, hg, HC, hb1⟩; replace hq := hq.trans (hb1.mono (Nat.le_of_lt hX.lt)); replace hX := HasB.below hX hb1 hX.lt) | (go_at_call 23; with_reducible refine (partsN s 58 58 8 h8 rfl hs _).mono ?_; rintro e w2 ⟨g2, cap2, rfl, hg2, HC2, hb2⟩; replace hq := hq.trans (hb2.mono (Nat.le_of_lt hX.lt)); replace hX := HasB.below hX hb2 hX.lt; have z12 := hb2.size) | fail)
      have hz := hX.lt
      have HX := Lib.hid hX
      have HQ := Lib.hid hq
      clear hX hq
      go_loopw [4, 8] (fun b i wr => ∃ k : Nat, k ≤ 8 ∧ i = .int .i64 k ∧ b = .string ⟨(b6 s.data.toList k).toArray⟩ ∧ Below w2.heap.size w2 wr) (fun _ i _ => 8 - (intOf i).toNat)
      case atStart => exact ⟨0, by omega, rfl, rfl, Below.refl _ _⟩
      case round =>
        obtain ⟨k, hk, rfl, rfl, hw⟩ := hrel
        by_cases hlt : k < 8
        · have hk2 : k < (partsL 58 s.data.toList).length := by omega
          obtain ⟨x, hx⟩ : ∃ x, x = (partsL 58 s.data.toList)[k]'hk2 := ⟨_, rfl⟩
          have c0 : wr.cell? ⟨g2, k, none⟩ = some (.string ⟨x.toArray⟩) := by
            rw [hx]; exact (hw.cell (p := ⟨g2, k, none⟩) hg2).trans (HC2.out k hk2)
          have HN := Lib.hid (b6_succ s.data.toList k hk2)
          rw [← hx] at HN
          have hxl : (⟨x.toArray⟩ : ByteArray).size ≤ 1000 := by
            have h1 := parts_size 58 s.data.toList x (by rw [hx]; exact List.getElem_mem _)
            rw [HL.out] at h1
            exact Nat.le_trans (Nat.le_trans (by simp [ByteArray.size]) h1) hs
          have hbl := b6_len s.data.toList k (by omega)
          have hbl2 := unhexV_len x
          have hxx : x.length ≤ 1000 := hxl
          have hm : s.data.toList.length * k ≤ 1000 * 8 := Nat.mul_le_mul (by rw [HL.out]; exact hs) hk
          have f1 : (9223372036854775807 < (b6 s.data.toList k).length + (unhexV x).length) = False := eq_false (by omega)
          clear hx hbl hbl2 hxx hm
          go_wp2_with (first | (go_at_call 26; refine (R02.unhex_any _ (Nat.le_trans hxl (by decide)) _).mono ?_; rintro e w6 ⟨rfl, hb6⟩) | fail)
          go_roundw
          case rel => exact ⟨k + 1, by omega, by go_num, by rw [HN.out, ← str_app], hw.trans (hb6.mono hw.size)⟩
          case measure => simp [intOf]; omega
        · obtain rfl : k = 8 := by omega
          obtain ⟨Bs, hBs⟩ : ∃ Bs : ByteArray, Bs = ⟨(b6 s.data.toList 8).toArray⟩ := ⟨_, rfl⟩
          have HBs : Hid (Bs.data.toList = refB s.data.toList) := Lib.hid (by rw [HB.out, hBs])
          have hbz : Bs.size ≤ maxLen := by
            rw [hBs]; exact Nat.le_trans (by rw [show (⟨(b6 s.data.toList 8).toArray⟩ : ByteArray).size = (b6 s.data.toList 8).length from rfl]; exact b6_len s.data.toList 8 (by omega)) (Nat.le_trans (Nat.mul_le_mul (by rw [HL.out]; exact hs : s.data.toList.length ≤ 1000) (Nat.le_refl 8)) (by decide))
          rw [← hBs]
          have hq := HQ.out.trans (hw.mono (Nat.le_of_lt hz))
          have hX := HasB.below HX.out hw hz
          clear hBs
          have e0 := gHi_bd Bs.data.toList
          have e1 := gLo_bd Bs.data.toList
          have HTA : Hid (gOk Bs.data.toList = true → textA (gV Bs.data.toList) (gHi Bs.data.toList) (gLo Bs.data.toList) = textB Bs.data.toList) := Lib.hid (fun h => by unfold textA; rw [addrB_g _ h])
          have htext := text_any (gV Bs.data.toList) (gHi Bs.data.toList) (gLo Bs.data.toList) e0.1 e0.2 e1.1 e1.2
          clear e0 e1
          rcases HR.out with ⟨r1, r2, r3⟩ | ⟨r1, r2⟩
          · have ho : gOk Bs.data.toList = true := by rw [HBs.out]; exact r1
            have R3 := Lib.hid r3
            rw [HTA.out ho, HBs.out, r2, Lib.mk_data, ← HBs.out] at htext
            clear r1 r2 r3
            go_wp2_with (first | (go_at_call 7; refine (get_addr Bs hbz _).mono ?_; rintro e w3 ⟨rfl, hb3⟩; replace hq := hq.trans (hb3.mono (Nat.le_of_lt hX.lt)); replace hX := HasB.below hX hb3 hX.lt; have hY := HasB.new w3 24 #[.bool (gV Bs.data.toList), .int .u64 (gHi Bs.data.toList), .int .u64 (gLo Bs.data.toList)]; have d0 := HasB.cell hY 0 (.bool (gV Bs.data.toList)) rfl; have d1 := HasB.cell hY 1 (.int .u64 (gHi Bs.data.toList)) rfl; have d2 := HasB.cell hY 2 (.int .u64 (gLo Bs.data.toList)) rfl; have hq0 : Below w.heap.size w (w3.alloc (.cells #[.bool (gV Bs.data.toList), .int .u64 (gHi Bs.data.toList), .int .u64 (gLo Bs.data.toList)] 24)) := hq.alloc (Nat.le_of_lt hX.lt) _; clear hq; have hq := hq0; clear hq0; replace hX := HasB.alloc hX (.cells #[.bool (gV Bs.data.toList), .int .u64 (gHi Bs.data.toList), .int .u64 (gLo Bs.data.toList)] 24)) | (go_at_call 15; refine (htext _).mono ?_; rintro e w4 ⟨rfl, hb4⟩; clear d0 d1 d2; replace hq := hq.trans (hb4.mono (Nat.le_of_lt hX.lt)); replace hX := HasB.below hX hb4 hX.lt; replace hY := HasB.below hY hb4 hY.lt; have d0 := HasB.cell hY 0 (.bool (gV Bs.data.toList)) rfl; have d1 := HasB.cell hY 1 (.int .u64 (gHi Bs.data.toList)) rfl; have d2 := HasB.cell hY 2 (.int .u64 (gLo Bs.data.toList)) rfl; have c0 := HasB.cell hX 0 _ rfl; have c1 := HasB.cell hX 1 _ rfl; have c2 := HasB.cell hX 2 _ rfl; have f0 := HasB.free hX 0; have f1 := HasB.free hX 1; have f2 := HasB.free hX 2) | fail)
            have hX3 := ((hX.put 0 (.bool (gV Bs.data.toList))).put 1 (.int .u64 (gHi Bs.data.toList))).put 2 (.int .u64 (gLo Bs.data.toList))
            rw [show ((#[Value.bool false, .int .u64 0, .int .u64 0].setIfInBounds 0 (.bool (gV Bs.data.toList))).setIfInBounds 1 (.int .u64 (gHi Bs.data.toList))).setIfInBounds 2 (.int .u64 (gLo Bs.data.toList)) = #[(.bool (gV Bs.data.toList)), (.int .u64 (gHi Bs.data.toList)), (.int .u64 (gLo Bs.data.toList))] from rfl] at hX3
            have hq3 := below_put (below_put (below_put hq w.heap.size 0 (.bool (gV Bs.data.toList)) (Nat.le_refl _)) w.heap.size 1 (.int .u64 (gHi Bs.data.toList)) (Nat.le_refl _)) w.heap.size 2 (.int .u64 (gLo Bs.data.toList)) (Nat.le_refl _)
            clear c0 c1 c2 f0 f1 f2 hX hq
            revert hX3 hq3
            generalize World.setCell (World.setCell (World.setCell _ _ _) _ _) _ _ = W
            intro hX3 hq3
            have c0 := HasB.cell hX3 0 ((.bool (gV Bs.data.toList))) rfl
            have c1 := HasB.cell hX3 1 ((.int .u64 (gHi Bs.data.toList))) rfl
            have c2 := HasB.cell hX3 2 ((.int .u64 (gLo Bs.data.toList))) rfl
            try simp only [Exit.inBlock, Exit.then]
            refine bodyPost_ret (v := .tuple #[.agg #[(.bool (gV Bs.data.toList)), (.int .u64 (gHi Bs.data.toList)), (.int .u64 (gLo Bs.data.toList))], .bool true]) (by simp [results, Tryd.results9, go_sem, c0, c1, c2]; try rfl) rfl ?_
            exact ⟨by rw [R3.out, ← HBs.out, ho], hq3⟩
          · have R2 := Lib.hid r2
            clear r2
            cases ho : gOk Bs.data.toList with
            | false =>
              clear r1
              go_wp2_with (first | (go_at_call 7; refine (get_addr Bs hbz _).mono ?_; rintro e w3 ⟨rfl, hb3⟩; replace hq := hq.trans (hb3.mono (Nat.le_of_lt hX.lt)); replace hX := HasB.below hX hb3 hX.lt; have hY := HasB.new w3 24 #[.bool (gV Bs.data.toList), .int .u64 (gHi Bs.data.toList), .int .u64 (gLo Bs.data.toList)]; have d0 := HasB.cell hY 0 (.bool (gV Bs.data.toList)) rfl; have d1 := HasB.cell hY 1 (.int .u64 (gHi Bs.data.toList)) rfl; have d2 := HasB.cell hY 2 (.int .u64 (gLo Bs.data.toList)) rfl; have hq0 : Below w.heap.size w (w3.alloc (.cells #[.bool (gV Bs.data.toList), .int .u64 (gHi Bs.data.toList), .int .u64 (gLo Bs.data.toList)] 24)) := hq.alloc (Nat.le_of_lt hX.lt) _; clear hq; have hq := hq0; clear hq0; replace hX := HasB.alloc hX (.cells #[.bool (gV Bs.data.toList), .int .u64 (gHi Bs.data.toList), .int .u64 (gLo Bs.data.toList)] 24); have c0 := HasB.cell hX 0 _ rfl; have c1 := HasB.cell hX 1 _ rfl; have c2 := HasB.cell hX 2 _ rfl; have f0 := HasB.free hX 0; have f1 := HasB.free hX 1; have f2 := HasB.free hX 2) | fail)
              have hX3 := ((hX.put 0 (.bool false)).put 1 (.int .u64 0)).put 2 (.int .u64 0)
              rw [show ((#[Value.bool false, .int .u64 0, .int .u64 0].setIfInBounds 0 (.bool false)).setIfInBounds 1 (.int .u64 0)).setIfInBounds 2 (.int .u64 0) = #[(.bool false), (.int .u64 0), (.int .u64 0)] from rfl] at hX3
              have hq3 := below_put (below_put (below_put hq w.heap.size 0 (.bool false) (Nat.le_refl _)) w.heap.size 1 (.int .u64 0) (Nat.le_refl _)) w.heap.size 2 (.int .u64 0) (Nat.le_refl _)
              clear c0 c1 c2 f0 f1 f2 hX hq
              revert hX3 hq3
              generalize World.setCell (World.setCell (World.setCell _ _ _) _ _) _ _ = W
              intro hX3 hq3
              have c0 := HasB.cell hX3 0 ((.bool false)) rfl
              have c1 := HasB.cell hX3 1 ((.int .u64 0)) rfl
              have c2 := HasB.cell hX3 2 ((.int .u64 0)) rfl
              try simp only [Exit.inBlock, Exit.then]
              refine bodyPost_ret (v := .tuple #[.agg #[(.bool false), (.int .u64 0), (.int .u64 0)], .bool false]) (by simp [results, Tryd.results9, go_sem, c0, c1, c2]; try rfl) rfl ?_
              exact ⟨by rw [R2.out]; rfl, hq3⟩
            | true =>
              obtain ⟨TS, hTS⟩ : ∃ TS : ByteArray, TS = ⟨(textA (gV Bs.data.toList) (gHi Bs.data.toList) (gLo Bs.data.toList)).toArray⟩ := ⟨_, rfl⟩
              rw [← hTS] at htext
              have hne : (TS.toList == s.toList) = false := by
                rw [Lib.toList_data, Lib.toList_data, hTS, HTA.out ho]
                have : textB Bs.data.toList ≠ s.data.toList := fun h => r1 ⟨by rw [← HBs.out]; exact ho, by rw [← HBs.out]; exact h⟩
                simpa using this
              clear hTS r1
              go_wp2_with (first | (go_at_call 7; refine (get_addr Bs hbz _).mono ?_; rintro e w3 ⟨rfl, hb3⟩; replace hq := hq.trans (hb3.mono (Nat.le_of_lt hX.lt)); replace hX := HasB.below hX hb3 hX.lt; have hY := HasB.new w3 24 #[.bool (gV Bs.data.toList), .int .u64 (gHi Bs.data.toList), .int .u64 (gLo Bs.data.toList)]; have d0 := HasB.cell hY 0 (.bool (gV Bs.data.toList)) rfl; have d1 := HasB.cell hY 1 (.int .u64 (gHi Bs.data.toList)) rfl; have d2 := HasB.cell hY 2 (.int .u64 (gLo Bs.data.toList)) rfl; have hq0 : Below w.heap.size w (w3.alloc (.cells #[.bool (gV Bs.data.toList), .int .u64 (gHi Bs.data.toList), .int .u64 (gLo Bs.data.toList)] 24)) := hq.alloc (Nat.le_of_lt hX.lt) _; clear hq; have hq := hq0; clear hq0; replace hX := HasB.alloc hX (.cells #[.bool (gV Bs.data.toList), .int .u64 (gHi Bs.data.toList), .int .u64 (gLo Bs.data.toList)] 24)) | (go_at_call 15; refine (htext _).mono ?_; rintro e w4 ⟨rfl, hb4⟩; clear d0 d1 d2; replace hq := hq.trans (hb4.mono (Nat.le_of_lt hX.lt)); replace hX := HasB.below hX hb4 hX.lt; replace hY := HasB.below hY hb4 hY.lt; have d0 := HasB.cell hY 0 (.bool (gV Bs.data.toList)) rfl; have d1 := HasB.cell hY 1 (.int .u64 (gHi Bs.data.toList)) rfl; have d2 := HasB.cell hY 2 (.int .u64 (gLo Bs.data.toList)) rfl; have c0 := HasB.cell hX 0 _ rfl; have c1 := HasB.cell hX 1 _ rfl; have c2 := HasB.cell hX 2 _ rfl; have f0 := HasB.free hX 0; have f1 := HasB.free hX 1; have f2 := HasB.free hX 2) | fail)
              have hX3 := ((hX.put 0 (.bool false)).put 1 (.int .u64 0)).put 2 (.int .u64 0)
              rw [show ((#[Value.bool false, .int .u64 0, .int .u64 0].setIfInBounds 0 (.bool false)).setIfInBounds 1 (.int .u64 0)).setIfInBounds 2 (.int .u64 0) = #[(.bool false), (.int .u64 0), (.int .u64 0)] from rfl] at hX3
              have hq3 := below_put (below_put (below_put hq w.heap.size 0 (.bool false) (Nat.le_refl _)) w.heap.size 1 (.int .u64 0) (Nat.le_refl _)) w.heap.size 2 (.int .u64 0) (Nat.le_refl _)
              clear c0 c1 c2 f0 f1 f2 hX hq
              revert hX3 hq3
              generalize World.setCell (World.setCell (World.setCell _ _ _) _ _) _ _ = W
              intro hX3 hq3
              have c0 := HasB.cell hX3 0 ((.bool false)) rfl
              have c1 := HasB.cell hX3 1 ((.int .u64 0)) rfl
              have c2 := HasB.cell hX3 2 ((.int .u64 0)) rfl
              try simp only [Exit.inBlock, Exit.then]
              refine bodyPost_ret (v := .tuple #[.agg #[(.bool false), (.int .u64 0), (.int .u64 0)], .bool false]) (by simp [results, Tryd.results9, go_sem, c0, c1, c2]; try rfl) rfl ?_
              exact ⟨by rw [R2.out]; rfl, hq3⟩
    · have h8i : (((partsL 58 s.data.toList).length : Int) == 8) = false := by simp; omega
      have HB := Lib.hid (ref_none _ h4 h8)
      have R2 : Hid (readB s.data.toList = []) := Lib.hid (by
        rcases HR.out with ⟨_, _, r3⟩ | ⟨_, r3⟩
        · rw [r3, HB.out]
        · exact r3)
      obtain ⟨Bs, hBs⟩ : ∃ Bs : ByteArray, Bs = ⟨#[]⟩ := ⟨_, rfl⟩
      have hbz : Bs.size ≤ maxLen := by rw [hBs]; exact Nat.zero_le _
      have ho : gOk Bs.data.toList = false := by rw [hBs]; rfl
      clear h4 h8
      go_enter Tryd.func9, Tryd.ntmps9
      go_wp2_with (first | (go_at_call 23; with_reducible refine (partsN s 46 46 _ rfl rfl hs _).mono ?_; rintro e w1 ⟨g, cap, rfl, hg, HC, hb1⟩; replace hq := hq.trans (hb1.mono (Nat.le_of_lt hX.lt)); replace hX := HasB.below hX hb1 hX.lt) | (go_at_call 23; with_reducible refine (partsN s 58 58 _ rfl rfl hs _).mono ?_; rintro e w2 ⟨g2, cap2, rfl, hg2, HC2, hb2⟩; replace hq := hq.trans (hb2.mono (Nat.le_of_lt hX.lt)); replace hX := HasB.below hX hb2 hX.lt; have z12 := hb2.size) | (go_at_call 7; refine (getNone _).mono ?_; rintro e w3 ⟨rfl, hb3⟩; replace hq := hq.trans (hb3.mono (Nat.le_of_lt hX.lt)); replace hX := HasB.below hX hb3 hX.lt; have hY := HasB.new w3 24 #[.bool false, .int .u64 0, .int .u64 0]; have d0 := HasB.cell hY 0 (.bool false) rfl; have d1 := HasB.cell hY 1 (.int .u64 0) rfl; have d2 := HasB.cell hY 2 (.int .u64 0) rfl; have hq0 : Below w.heap.size w (w3.alloc (.cells #[.bool false, .int .u64 0, .int .u64 0] 24)) := hq.alloc (Nat.le_of_lt hX.lt) _; clear hq; have hq := hq0; clear hq0; replace hX := HasB.alloc hX (.cells #[.bool false, .int .u64 0, .int .u64 0] 24); have c0 := HasB.cell hX 0 _ rfl; have c1 := HasB.cell hX 1 _ rfl; have c2 := HasB.cell hX 2 _ rfl; have f0 := HasB.free hX 0; have f1 := HasB.free hX 1; have f2 := HasB.free hX 2) | fail)
      have hX3 := ((hX.put 0 (.bool false)).put 1 (.int .u64 0)).put 2 (.int .u64 0)
      rw [show ((#[Value.bool false, .int .u64 0, .int .u64 0].setIfInBounds 0 (.bool false)).setIfInBounds 1 (.int .u64 0)).setIfInBounds 2 (.int .u64 0) = #[(.bool false), (.int .u64 0), (.int .u64 0)] from rfl] at hX3
      have hq3 := below_put (below_put (below_put hq w.heap.size 0 (.bool false) (Nat.le_refl _)) w.heap.size 1 (.int .u64 0) (Nat.le_refl _)) w.heap.size 2 (.int .u64 0) (Nat.le_refl _)
      clear c0 c1 c2 f0 f1 f2 hX hq
      revert hX3 hq3
      generalize World.setCell (World.setCell (World.setCell _ _ _) _ _) _ _ = W
      intro hX3 hq3
      have c0 := HasB.cell hX3 0 ((.bool false)) rfl
      have c1 := HasB.cell hX3 1 ((.int .u64 0)) rfl
      have c2 := HasB.cell hX3 2 ((.int .u64 0)) rfl
      try simp only [Exit.inBlock, Exit.then]
      refine bodyPost_ret (v := .tuple #[.agg #[(.bool false), (.int .u64 0), (.int .u64 0)], .bool false]) (by simp [results, Tryd.results9, go_sem, c0, c1, c2]; try rfl) rfl ?_
      exact ⟨by rw [R2.out]; rfl, hq3⟩
end Go.Proofs.YtohnojdofilpnaaDoor.R04

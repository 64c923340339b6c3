/- The contracts of cloakroomref02: hexadecimal digits. -/
import Derived.Test.YtohnojdofilpnaaDoorOctetWalks
import Derived.Deep.RegionHeld3
import Derived.Deep.DrawnRows
import Derived.BigQuiet
namespace Go.Proofs.YtohnojdofilpnaaDoor.R02
open Go.RowKit
set_option linter.unusedVariables false
attribute [local go_sem ↓] Go.wp_at_zero Go.wp_at_succ

theorem digit_any (n : Int) (h0 : 0 ≤ n) (h : n < 16) (w : World) :
    Calls Tryd.prog 39 #[.int .i64 n] w fun e w' => e = .returned (.int .u8 ((hexD n.toNat).toNat : Int)) ∧ w = w' := by
  by_cases hn : n < 10
  · have H2 : Hid (((hexD n.toNat).toNat : Int) = 48 + n) := Lib.hid (by rw [hexD_toNat _ (by omega), if_pos (by omega)]; omega)
    go_enter Tryd.func39, Tryd.ntmps39
    go_wp2
    go_ret
    exact ⟨ret_int (by rw [H2.out]), rfl⟩
  · have H2 : Hid (((hexD n.toNat).toNat : Int) = 87 + n) := Lib.hid (by rw [hexD_toNat _ (by omega), if_neg (by omega)]; omega)
    go_enter Tryd.func39, Tryd.ntmps39
    go_wp2
    go_ret
    exact ⟨ret_int (by rw [H2.out]; omega), rfl⟩

theorem Tryd.infoB : (Tryd.prog.info? 5).map (fun i => (i.zero, i.size, i.bytes)) = some (some (.int .u8 0), 1, 1) := by kernel_rfl
theorem hexL_take (s : ByteArray) (k : Nat) (h : k < s.size) : hexL (s.data.toList.take (k + 1)) = hexL (s.data.toList.take k) ++ [hexD ((s[k]'h).toNat / 16), hexD ((s[k]'h).toNat % 16)] := by
  rw [List.take_succ_eq_append_getElem (by simpa using h), hexL_append]
  rfl
set_option maxHeartbeats 1000000 in
theorem hex_any (s : ByteArray) (hs : s.size ≤ 1099511627776) (w : World) :
    Calls Tryd.prog 31 #[.string s] w fun e w' => e = .returned (.string ⟨(hexL s.data.toList).toArray⟩) ∧ Below w.heap.size w w' := by
  obtain ⟨ti, hi, hz0, hz1, hz2⟩ := info_parts Tryd.infoB
  go_enter Tryd.func31, Tryd.ntmps31
  go_wp2
  go_loopw [3, 4] (fun v i wr => ∃ (k n : Nat), k ≤ s.size ∧ n = 2 * k ∧ i = .int .i64 k ∧ wr.ownsRow w.heap.size 5 1 v n (cellsB (hexL (s.data.toList.take k))) ∧ Below w.heap.size w wr) (fun _ i _ => s.size - (intOf i).toNat)
  case atStart => exact ⟨0, 0, by omega, rfl, rfl, World.ownsRow_nil _ _ _ _, Below.refl _ _⟩
  case round =>
    obtain ⟨k, n, hk, hn, rfl, hown, hb⟩ := hrel
    have HN := Lib.hid hn
    have hn2 : n ≤ 2199023255552 := by omega
    clear hn
    by_cases hlt : k < s.size
    · have HT := Lib.hid (hexL_take s k hlt)
      have hc := (s[k]'hlt).toNat_lt
      have eA : IntKind.i64.wrap ((s[k]'hlt).toNat : Int) = ((s[k]'hlt).toNat : Int) := IntWalk.i64_in _ (by omega)
      have eB : IntKind.i64.wrap (((s[k]'hlt).toNat : Int) / 16) = ((s[k]'hlt).toNat : Int) / 16 := IntWalk.i64_in _ (by omega)
      have eC : ((s[k]'hlt).toNat : Int).tmod 16 = ((s[k]'hlt).toNat : Int) % 16 := Int.tmod_eq_emod_of_nonneg (by omega)
      go_wp2
      go_region_held3 (fun w' => True) (trivial) (first | (go_at_call 39; with_reducible refine (digit_any _ (by omega) (by omega) _).mono ?_; rintro e w' ⟨rfl, rfl⟩) | (refine step_append_lies _ (by rfl) _ _ _ (by rfl) w.heap.size 5 ti _ 1 1 Tryd.underlying50 hi hz0 hz1 hz2 rfl (by omega) u3 n (cellsB (hexL (List.take k s.data.toList))) (by rfl) ((hown.alloc _).drew) ⟨wr.heap.size, 0, none⟩ 2 2 [.int .u8 ((hexD (((s[k]'hlt).toNat : Int) / 16).toNat).toNat : Int), .int .u8 ((hexD (((s[k]'hlt).toNat : Int) % 16).toNat).toNat : Int)] (by rfl) (by rfl) (World.news_of_block (cs := #[.int .u8 ((hexD (((s[k]'hlt).toNat : Int) / 16).toNat).toNat : Int), .int .u8 ((hexD (((s[k]'hlt).toNat : Int) % 16).toNat).toNat : Int)]) (t := 5) (fr := (0, 0)) (heap_alloc_new wr _)) (by simp [Value.oneCell']) (by omega) (by unfold maxLen; omega) (by omega) (by simp; have := hb.size; omega) (wr.heap.size + 1) (by simp) ?_; intro g cap w1 hown1 hgrow hat hg))
      all_goals
        have hb1 := ((hb.alloc hb.size _).drew).grown hgrow (by simp; have := hb.size; omega) (fun j hj => (hown.lt j hj).1)
        have R : Hid (w1.ownsRow w.heap.size 5 1 (.slice (some ⟨g, 0, none⟩) (n + 2) cap) (n + 2) (cellsB (hexL (List.take (k + 1) s.data.toList)))) := by
          rw [HT.out, cellsB_append]
          have h1 : cellsB [hexD ((s[k]'hlt).toNat / 16), hexD ((s[k]'hlt).toNat % 16)] = [.int .u8 ((hexD (((s[k]'hlt).toNat : Int) / 16).toNat).toNat : Int), .int .u8 ((hexD (((s[k]'hlt).toNat : Int) % 16).toNat).toNat : Int)] := by
            simp only [cellsB, List.map_cons, List.map_nil]
            rw [show (((s[k]'hlt).toNat : Int) / 16).toNat = (s[k]'hlt).toNat / 16 by omega, show (((s[k]'hlt).toNat : Int) % 16).toNat = (s[k]'hlt).toNat % 16 by omega]
          rw [h1]
          exact Lib.hid hown1
        clear hown hown1 hgrow eA eB eC
        go_wp2
        go_roundw
        case rel => exact ⟨k + 1, n + 2, by omega, by have := HN.out; omega, by go_num, R.out, hb1⟩
        case measure => simp [intOf]; omega
    · have hkk : Hid (k = s.size) := Lib.hid (by omega)
      have hcv : (convert 50 9 u3).run Tryd.prog wr = .ok (.string ⟨(hexL (s.data.toList.take k)).toArray⟩) wr := run_string_of_own 50 9 5 (by kernel_rfl) (by kernel_rfl) (by kernel_rfl) hown
      go_wp2
      go_ret
      exact ⟨ret_str (by rw [hkk.out, List.take_of_length_le (by simp)]), hb⟩

def valR (c : Int) : Int := if valOk c then valN c else -1
theorem valR_some {c : Int} {v : Nat} (h : valI c = some v) : valR c = v := by unfold valR; rw [(valN_some h).2, (valN_some h).1]; rfl
theorem valR_none {c : Int} (h : valI c = none) : valR c = -1 := by unfold valR; rw [(valN_none h).2]; rfl
theorem valR_bd (c : Int) : -1 ≤ valR c ∧ valR c < 16 := by
  cases h : valI c with
  | none => rw [valR_none h]; omega
  | some v => rw [valR_some h]; have := (valI_some h).1; omega
theorem value_any (c : Int) (h0 : 0 ≤ c) (h1 : c < 256) (w : World) :
    Calls Tryd.prog 36 #[.int .u8 c] w fun e w' => e = .returned (.int .i64 (valR c)) ∧ w = w' := by
  go_enter Tryd.func36, Tryd.ntmps36
  go_wp2
  go_loop [3] (fun i => ∃ k : Nat, k ≤ 16 ∧ i = .int .i64 k ∧ Hid (∀ j, j < k → ((hexD j).toNat : Int) ≠ c)) (fun i => 16 - (intOf i).toNat)
  case atStart => exact ⟨0, by omega, rfl, Lib.hid (fun j hj => by omega)⟩
  case round =>
    obtain ⟨k, hk, rfl, HA⟩ := hrel
    by_cases hlt : k < 16
    · by_cases he : ((hexD k).toNat : Int) = c
      · have HV : Hid (valR c = k) := Lib.hid (valR_some (by rw [← he]; exact valI_hexD k hlt))
        have ht : (((hexD k).toNat : Int) == c) = true := by simpa using he
        clear he
        go_wp2_with (go_at_call 39; refine (digit_any _ (by omega) (by omega) _).mono ?_; rintro e w' ⟨rfl, rfl⟩)
        go_ret
        exact ⟨ret_int HV.out.symm, rfl⟩
      · have ht : (((hexD k).toNat : Int) == c) = false := by simpa using he
        have HA2 : Hid (∀ j, j < k + 1 → ((hexD j).toNat : Int) ≠ c) := Lib.hid (fun j hj => by
          by_cases hjk : j = k
          · subst hjk; exact he
          · exact HA.out j (by omega))
        clear he
        go_wp2_with (go_at_call 39; refine (digit_any _ (by omega) (by omega) _).mono ?_; rintro e w' ⟨rfl, rfl⟩)
        go_round
        case rel => exact ⟨k + 1, by omega, by go_num, HA2⟩
        case measure => simp [intOf]; omega
    · have hk16 : k = 16 := by omega
      subst hk16
      have HV : Hid (valR c = -1) := Lib.hid (valR_none (valI_none HA.out))
      go_wp2
      go_ret
      exact ⟨ret_int HV.out.symm, rfl⟩

theorem take2 (s : ByteArray) (p : Nat) (h : p + 1 < s.size) : s.data.toList.take (p + 2) = s.data.toList.take p ++ [s[p], s[p + 1]] := by
  rw [List.take_succ_eq_append_getElem (by simpa using h), List.take_succ_eq_append_getElem (by simp; have : s.data.size = s.size := rfl; omega)]
  simp
  exact ⟨rfl, rfl⟩
theorem drop2 (s : ByteArray) (p : Nat) (h : p + 1 < s.size) : s.data.toList = s.data.toList.take p ++ s[p] :: s[p + 1] :: s.data.toList.drop (p + 2) := by
  have h2 := take2 s p h
  have h3 := List.take_append_drop (p + 2) s.data.toList
  rw [h2] at h3
  simpa using h3.symm
set_option maxHeartbeats 1000000 in
theorem unhex_any (s : ByteArray) (hs : s.size ≤ 1099511627776) (w : World) :
    Calls Tryd.prog 26 #[.string s] w fun e w' => e = .returned (.tuple #[.string ⟨(unhexV s.data.toList).toArray⟩, .bool (unhexOk s.data.toList)]) ∧ Below w.heap.size w w' := by
  obtain ⟨ti, hi, hz0, hz1, hz2⟩ := info_parts Tryd.infoB
  go_enter Tryd.func26, Tryd.ntmps26
  go_wp2
  go_loopw [4, 5] (fun v i wr => ∃ (k p : Nat) (l : List UInt8), p ≤ s.size ∧ p = 2 * k ∧ i = .int .i64 p ∧ wr.ownsRow w.heap.size 5 1 v k (cellsB l) ∧ unhexL (s.data.toList.take p) = some l ∧ Below w.heap.size w wr) (fun _ i _ => s.size - (intOf i).toNat)
  case atStart => exact ⟨0, 0, [], by omega, rfl, rfl, World.ownsRow_nil _ _ _ _, rfl, Below.refl _ _⟩
  case round =>
    obtain ⟨k, p, l, hp, hpk, rfl, hown, hl, hb⟩ := hrel
    have HL := Lib.hid hl
    have HP := Lib.hid hpk
    have hk2 : k ≤ 1099511627776 := by omega
    have hpar : Hid ((s.data.toList.take p).length % 2 = 0) := Lib.hid (by simp; have : s.data.size = s.size := rfl; omega)
    clear hl hpk
    by_cases hlt : p + 1 < s.size
    · have h1 : (p : Int) + 1 < s.size := by omega
      have c0 := (s[p]'(by omega)).toNat_lt
      have c1 := (s[p + 1]'hlt).toNat_lt
      have D := Lib.hid (drop2 s p hlt)
      have T := Lib.hid (take2 s p hlt)
      have i1 : (p : Int) < (s.size : Int) := by omega
      have i0 : (0 : Int) ≤ (p : Int) := by omega
      have i2 : IntKind.i64.wrap ((p : Int) + 1) = (p : Int) + 1 := IntWalk.i64_in _ (by omega)
      have i3 : (0 : Int) ≤ (p : Int) + 1 := by omega
      have i4 : ((p : Int) + 1).toNat = p + 1 := by omega
      cases hv0 : valI ((s[p]'(by omega)).toNat : Int) with
      | none =>
        have g0 : valR ((s[p]'(by omega)).toNat : Int) = -1 := valR_none hv0
        have HN : Hid (unhexL s.data.toList = none) := Lib.hid (by rw [D.out]; exact unhexL_bad2 _ _ _ _ hpar.out (.inl hv0))
        clear hv0
        have g2 : valR ((s[p + 1]'hlt).toNat : Int) < 16 := (valR_bd _).2
        go_wp2
        go_quiet ((go_at_call 36; exact quietL (value_any _ (by omega) (by omega) _)))
        go_wp2
        go_ret2
        exact ⟨by rw [(unhex_none HN.out).1, (unhex_none HN.out).2]; rfl, below_drewN hb _⟩
      | some x =>
        have g0 : valR ((s[p]'(by omega)).toNat : Int) = x := valR_some hv0
        have b0 := (valI_some hv0).1
        have HV0 := Lib.hid hv0
        clear hv0
        cases hv1 : valI ((s[p + 1]'hlt).toNat : Int) with
        | none =>
          have g1 : valR ((s[p + 1]'hlt).toNat : Int) = -1 := valR_none hv1
          have HN : Hid (unhexL s.data.toList = none) := Lib.hid (by rw [D.out]; exact unhexL_bad2 _ _ _ _ hpar.out (.inr hv1))
          clear hv1
          go_wp2
          go_quiet ((go_at_call 36; exact quietL (value_any _ (by omega) (by omega) _)))
          go_wp2
          go_ret2
          exact ⟨by rw [(unhex_none HN.out).1, (unhex_none HN.out).2]; rfl, below_drewN hb _⟩
        | some y =>
          have g1 : valR ((s[p + 1]'hlt).toNat : Int) = y := valR_some hv1
          have b1 := (valI_some hv1).1
          have HS := Lib.hid (unhexL_step _ _ _ l x y hpar.out HL.out HV0.out hv1)
          clear hv1
          go_wp2
          go_quiet ((go_at_call 36; exact quietL (value_any _ (by omega) (by omega) _)))
          have hownq : (wr.drewN nq).ownsRow w.heap.size 5 1 u4 k (cellsB l) := hown
          have hbq := below_drewN hb nq
          clear hown hb
          generalize wr.drewN nq = wq at hownq hbq ⊢
          go_wp2_with (at_builtin; refine wpList_append_own _ rfl _ _ 50 rfl w.heap.size 5 ti (.int .u8 0) 1 1 Tryd.underlying50 hi hz0 hz1 hz2 rfl (by decide) _ _ _ rfl (hownq.alloc _) ⟨wq.heap.size, 0, none⟩ 1 1 [.int .u8 (16 * (x : Int) + y)] rfl rfl ?c1 ?c2 ?c3 ?c4 ?c5 ?_)
          case c1 =>
            intro j u hj
            match j, hj with
            | 0, hj => simp at hj; subst hj; simp [Addr.add]
          case c2 => intro u hu; simp at hu; subst hu; rfl
          case c3 => unfold maxLen; omega
          case c4 => omega
          case c5 => have := hbq.size; simp; omega
          intro v' w1 hown1 hgrow _
          have hb1 := (hbq.alloc hbq.size _).grown hgrow (by simp; have := hbq.size; omega) (fun j hj => (hownq.lt j hj).1)
          have R : Hid (w1.ownsRow w.heap.size 5 1 v' (k + 1) (cellsB (l ++ [UInt8.ofNat (16 * x + y)]))) := by
            rw [cellsB_append]
            have h1 : cellsB [UInt8.ofNat (16 * x + y)] = [.int .u8 (16 * (x : Int) + y)] := by
              simp only [cellsB, List.map_cons, List.map_nil]
              rw [show ((UInt8.ofNat (16 * x + y)).toNat : Int) = 16 * (x : Int) + y by simp; omega]
            rw [h1]
            exact Lib.hid hown1
          clear hown1 hgrow hownq hbq g0 g1
          go_wp2
          go_roundw
          case rel => exact ⟨k + 1, p + 2, _, by omega, by have := HP.out; omega, by go_num, R.out, by rw [T.out]; exact HS.out, hb1⟩
          case measure => simp [intOf]; omega
    · by_cases hodd : p + 1 = s.size
      · have HN : Hid (unhexL s.data.toList = none) := Lib.hid (unhexL_odd _ (by simp; have : s.data.size = s.size := rfl; have := HP.out; omega))
        have ht : ((s.size : Int) % 2 == 1) = true := by have := HP.out; simp; omega
        clear hodd
        go_wp2
        go_ret2
        exact ⟨by rw [(unhex_none HN.out).1, (unhex_none HN.out).2]; rfl, hb⟩
      · have hpe : Hid (p = s.size) := Lib.hid (by omega)
        have HN : Hid (unhexL s.data.toList = some l) := Lib.hid (by have := HL.out; rw [List.take_of_length_le (by simp; have : s.data.size = s.size := rfl; omega)] at this; exact this)
        have ht : ((s.size : Int) % 2 == 1) = false := by have := HP.out; simp; omega
        have hcv : (convert 50 9 u4).run Tryd.prog wr = .ok (.string ⟨l.toArray⟩) wr := run_string_of_own 50 9 5 (by kernel_rfl) (by kernel_rfl) (by kernel_rfl) hown
        clear hodd
        go_wp2
        go_ret2
        exact ⟨by rw [(unhex_some HN.out).1, (unhex_some HN.out).2]; rfl, hb⟩
end Go.Proofs.YtohnojdofilpnaaDoor.R02

/- The contracts of cloakroomref04: Text. -/
import Derived.Test.YtohnojdofilpnaaDoorRef04Parts
namespace Go.Proofs.YtohnojdofilpnaaDoor.R04
open Go.RowKit
set_option linter.unusedVariables false

theorem join_snoc (c : UInt8) (g : List UInt8) : ∀ gs : List (List UInt8), gs ≠ [] → Lib.join (gs ++ [g]) [c] = Lib.join gs [c] ++ ([c] ++ g)
  | [], h => absurd rfl h
  | [x], _ => by rw [Lib.join_one]; simp [joinC, Lib.join_one]
  | x :: y :: r, _ => by
    have ih := join_snoc c g (y :: r) (by simp)
    rw [List.cons_append] at ih ⊢
    rw [List.cons_append, joinC, joinC, ih]; simp
theorem join_bd (c : UInt8) (m : Nat) : ∀ gs : List (List UInt8), (∀ g ∈ gs, g.length ≤ m) → (Lib.join gs [c]).length ≤ (m + 1) * gs.length
  | [], _ => by simp [Lib.join_nil]
  | [x], h => by have := h x (by simp); rw [Lib.join_one]; simp; omega
  | x :: y :: r, h => by
    have ih := join_bd c m (y :: r) (fun g hg => h g (List.mem_cons_of_mem _ hg))
    have := h x (by simp)
    rw [joinC, List.length_append, List.length_cons, List.length_cons, Nat.mul_succ]
    omega
theorem str3 (a b c : List UInt8) : (⟨a.toArray⟩ : ByteArray) ++ ⟨b.toArray⟩ ++ ⟨c.toArray⟩ = ⟨(a ++ (b ++ c)).toArray⟩ := by
  rw [str_app, str_app, List.append_assoc]
def jd (l : List UInt8) (k : Nat) : List UInt8 := Lib.join ((l.take k).map fun x => digL x.toNat) [46]
theorem jd_bd (l : List UInt8) (k : Nat) : (jd l k).length ≤ 4 * k := by
  have h := join_bd 46 3 ((l.take k).map fun x => digL x.toNat) (fun g hg => by obtain ⟨x, _, rfl⟩ := List.mem_map.1 hg; exact digL_len _)
  have : (l.take k).length ≤ k := List.length_take_le k l
  rw [List.length_map] at h
  unfold jd; omega
theorem jd_succ (s : ByteArray) (k : Nat) (h1 : 1 ≤ k) (h : k < s.size) : jd s.data.toList (k + 1) = jd s.data.toList k ++ ([46] ++ digL (s[k]'h).toNat) := by
  unfold jd
  rw [List.take_succ_eq_append_getElem (by simpa using h), List.map_append, List.map_singleton, join_snoc]
  · rfl
  · intro h2
    have := congrArg List.length h2
    rw [List.length_map, List.length_take, show s.data.toList.length = s.size by simp, List.length_nil] at this
    omega
theorem jd_one (s : ByteArray) (h : 0 < s.size) : jd s.data.toList 1 = digL (s[0]'h).toNat := by
  unfold jd
  rw [show (1 : Nat) = 0 + 1 from rfl, List.take_succ_eq_append_getElem (by simpa using h)]
  simp [Lib.join_one]; rfl
def jx (l : List UInt8) (k : Nat) : List UInt8 := Lib.join ((List.range k).map fun j => hexL (grp l j)) [58]
theorem jx_bd (l : List UInt8) (k : Nat) : (jx l k).length ≤ 5 * k := by
  have h := join_bd 58 4 ((List.range k).map fun j => hexL (grp l j)) (fun g hg => by
    obtain ⟨x, _, rfl⟩ := List.mem_map.1 hg
    rw [hexL_length]; unfold grp; rw [List.length_take]; omega)
  rw [List.length_map, List.length_range] at h
  unfold jx; omega
theorem jx_succ (l : List UInt8) (k : Nat) (h1 : 1 ≤ k) : jx l (k + 1) = jx l k ++ ([58] ++ hexL (grp l k)) := by
  unfold jx
  rw [List.range_succ, List.map_append, List.map_singleton, join_snoc]
  intro h2
  have := congrArg List.length h2
  rw [List.length_map, List.length_range] at this
  simp at this; omega
theorem jx_one (l : List UInt8) : jx l 1 = hexL (grp l 0) := by
  unfold jx; simp [Lib.join_one]
theorem grp_two (s : ByteArray) (k p : Nat) (h : p = 2 * k) : (s.extract p (p + 2)).data.toList = grp s.data.toList k := by
  rw [ext_str, h, show 2 * k + 2 - 2 * k = 2 by omega]; rfl
theorem text_any (v : Bool) (hi lo : Int) (h0 : 0 ≤ hi) (h1 : hi < 18446744073709551616) (l0 : 0 ≤ lo) (l1 : lo < 18446744073709551616) (w : World) :
    Calls Tryd.prog 15 #[.agg #[.bool v, .int .u64 hi, .int .u64 lo]] w fun e w' => e = .returned (.string ⟨(textA v hi lo).toArray⟩) ∧ Below w.heap.size w w' := by
  have hq : Below w.heap.size w (w.alloc (.cells #[.bool v, .int .u64 hi, .int .u64 lo] 24)) := (Below.refl _ _).alloc (Nat.le_refl _) _
  have hz : w.heap.size < (w.alloc (.cells #[.bool v, .int .u64 hi, .int .u64 lo] 24)).heap.size := (HasB.new w _ _).lt
  have hl := addrB_lens v hi lo
  obtain ⟨S, hS⟩ : ∃ S : ByteArray, S = ⟨(addrB v hi lo).toArray⟩ := ⟨_, rfl⟩
  have hput : ∀ W, _ := fun W => put_addr v hi lo h0 h1 l0 l1 W
  rw [← hS] at hput
  have hD : S.data.toList = addrB v hi lo := by rw [hS]
  have hsz : S.size = (addrB v hi lo).length := by rw [← hD]; simp
  have HX : Hid (textA v hi lo = textB S.data.toList) := Lib.hid (by rw [hD]; rfl)
  clear hS hD
  rw [← hsz] at hl
  clear hsz
  rcases hl with hl | hl | hl
  · have HT : Hid (textB S.data.toList = []) := Lib.hid (by unfold textB; rw [if_neg (by simp; have : S.data.size = S.size := rfl; omega), if_neg (by simp; have : S.data.size = S.size := rfl; omega)])
    have e4 : ((S.size : Int) == 4) = false := by simp; omega
    have e16 : ((S.size : Int) == 16) = false := by simp; omega
    clear hl
    go_enter Tryd.func15, Tryd.ntmps15
    go_wp2_with (first | (go_at_call 13; refine (hput _).mono ?_; rintro e w1 ⟨rfl, hb1⟩; replace hq := hq.trans (hb1.mono (Nat.le_of_lt hz))) | fail)
    go_ret
    exact ⟨by rw [HX.out, HT.out]; rfl, hq⟩
  · have HT : Hid (textB S.data.toList = jd S.data.toList 4) := Lib.hid (by
      rw [textB_4 _ (by simpa using hl)]; unfold text4 jd
      rw [List.take_of_length_le (by simp; have : S.data.size = S.size := rfl; omega)])
    have e4 : ((S.size : Int) == 4) = true := by simp; omega
    have e16 : ((S.size : Int) == 16) = false := by simp; omega
    have z0 : 0 < S.size := by omega
    have z0i : (0 : Int) < S.size := by omega
    have HS := Lib.hid hl
    have HJ := Lib.hid (jd_one S z0)
    have hb0 := (S[0]'z0).toNat_lt
    clear hl
    go_enter Tryd.func15, Tryd.ntmps15
    go_wp2_with (first | (go_at_call 13; refine (hput _).mono ?_; rintro e w1 ⟨rfl, hb1⟩; replace hq := hq.trans (hb1.mono (Nat.le_of_lt hz)); have z1 := hb1.size) | (go_at_call 30; refine (digits_any _ hb0 _).mono ?_; rintro e w2 ⟨rfl, hb2⟩) | fail)
    have hq2 : Below w.heap.size w w2 := hq.trans (hb2.mono (by omega))
    have z2 := hb2.size
    go_loopw [4, 5] (fun t i wr => ∃ k : Nat, 1 ≤ k ∧ k ≤ 4 ∧ i = .int .i64 k ∧ t = .string ⟨(jd S.data.toList k).toArray⟩ ∧ Below w.heap.size w wr ∧ w.heap.size ≤ wr.heap.size) (fun _ i _ => 4 - (intOf i).toNat)
    case atStart => exact ⟨1, by omega, by omega, rfl, by rw [HJ.out], hq2, by omega⟩
    case round =>
      obtain ⟨k, hk1, hk, rfl, rfl, hb, hsw⟩ := hrel
      by_cases hlt : k < 4
      · have hlt2 : k < S.size := by rw [HS.out]; exact hlt
        have hlt3 : (k : Int) < S.size := by omega
        have hbk := (S[k]'hlt2).toNat_lt
        have HN := Lib.hid (jd_succ S k hk1 hlt2)
        have hJb := jd_bd S.data.toList k
        have hDb := digL_len (S[k]'hlt2).toNat
        have f1 : (9223372036854775807 < (jd S.data.toList k).length + 1) = False := eq_false (by omega)
        have f2 : (9223372036854775807 < (jd S.data.toList k).length + 1 + (digL (S[k]'hlt2).toNat).length) = False := eq_false (by omega)
        clear hJb hDb
        go_wp2_with (first | (go_at_call 30; refine (digits_any _ hbk _).mono ?_; rintro e w3 ⟨rfl, hb3⟩) | fail)
        go_roundw
        case rel => exact ⟨k + 1, by omega, by omega, by go_num, by rw [HN.out, ← str3], hb.trans (hb3.mono hsw), by have := hb3.size; omega⟩
        case measure => simp [intOf]; omega
      · obtain rfl : k = 4 := by omega
        go_wp2
        go_ret
        exact ⟨by rw [HX.out, HT.out]; rfl, hb⟩
  · have HT : Hid (textB S.data.toList = jx S.data.toList 8) := Lib.hid (by
      rw [textB_6 _ (by simpa using hl)]; rfl)
    have e4 : ((S.size : Int) == 4) = false := by simp; omega
    have e16 : ((S.size : Int) == 16) = true := by simp; omega
    have HS := Lib.hid hl
    have HJ := Lib.hid (jx_one S.data.toList)
    have HG0 : Hid ((S.extract 0 2).data.toList = grp S.data.toList 0) := Lib.hid (grp_two S 0 0 rfl)
    have b0 : (2 : Int) ≤ S.size := by omega
    have hh0 : (S.extract 0 2).size ≤ 1099511627776 := by rw [ByteArray.size_extract]; omega
    clear hl
    go_enter Tryd.func15, Tryd.ntmps15
    go_wp2_with (first | (go_at_call 13; refine (hput _).mono ?_; rintro e w1 ⟨rfl, hb1⟩; replace hq := hq.trans (hb1.mono (Nat.le_of_lt hz)); have z1 := hb1.size) | (go_at_call 31; refine (R02.hex_any _ hh0 _).mono ?_; rintro e w2 ⟨rfl, hb2⟩; rw [HG0.out, ← HJ.out]) | fail)
    have hq2 : Below w.heap.size w w2 := hq.trans (hb2.mono (by omega))
    have z2 := hb2.size
    clear e4 e16 b0
    go_loopw [4, 6] (fun t i wr => ∃ k p : Nat, 1 ≤ k ∧ k ≤ 8 ∧ p = 2 * k ∧ i = .int .i64 p ∧ t = .string ⟨(jx S.data.toList k).toArray⟩ ∧ Below w.heap.size w wr ∧ w.heap.size ≤ wr.heap.size) (fun _ i _ => 16 - (intOf i).toNat)
    case atStart => exact ⟨1, 2, by omega, by omega, rfl, rfl, rfl, hq2, by omega⟩
    case round =>
      obtain ⟨k, p, hk1, hk, hp, rfl, rfl, hb, hsw⟩ := hrel
      have HP := Lib.hid hp
      by_cases hlt : p < 16
      · have b3 : (p : Int) + 2 ≤ S.size := by rw [HS.out]; omega
        have b2 : (p : Int) ≤ (p : Int) + 2 := by omega
        have b1 : (0 : Int) ≤ (p : Int) + 2 := by omega
        have hlti : (p : Int) < 16 := by omega
        have HN := Lib.hid (jx_succ S.data.toList k hk1)
        have HG := Lib.hid (grp_two S k p hp)
        have hh : (S.extract p (p + 2)).size ≤ 1099511627776 := by rw [ByteArray.size_extract, HS.out]; omega
        have hJb := jx_bd S.data.toList k
        have hDb : (hexL (grp S.data.toList k)).length ≤ 4 := by rw [hexL_length]; unfold grp; rw [List.length_take]; omega
        have f1 : (9223372036854775807 < (jx S.data.toList k).length + 1) = False := eq_false (by omega)
        have f2 : (9223372036854775807 < (jx S.data.toList k).length + 1 + (hexL (grp S.data.toList k)).length) = False := eq_false (by omega)
        clear hJb hDb hp
        go_wp2_with (first | (go_at_call 31; refine (R02.hex_any _ hh _).mono ?_; rintro e w3 ⟨rfl, hb3⟩; rw [HG.out]) | fail)
        go_roundw
        case rel => exact ⟨k + 1, p + 2, by omega, by have := HP.out; omega, by have := HP.out; omega, by go_num, by rw [HN.out, ← str3], hb.trans (hb3.mono hsw), by have := hb3.size; omega⟩
        case measure => simp [intOf]; omega
      · obtain rfl : k = 8 := by omega
        clear hp
        go_wp2
        go_ret
        exact ⟨by rw [HX.out, HT.out]; rfl, hb⟩
end Go.Proofs.YtohnojdofilpnaaDoor.R04

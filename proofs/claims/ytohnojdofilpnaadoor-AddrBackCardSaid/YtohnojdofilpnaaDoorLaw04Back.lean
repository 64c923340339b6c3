/- The law of addr without the reference: the walk. -/
import Derived.Test.YtohnojdofilpnaaDoorLaw04
namespace Go.Proofs.YtohnojdofilpnaaDoor
open Go.RowKit Go.WideShapes
set_option linter.unusedVariables false

theorem cellV {w : World} {g : Nat} {t : TypeId} {v : Bool} {hi lo : Int} (h : HasB w g t #[.bool v, .int .u64 hi, .int .u64 lo]) : w.cell? ⟨g, 0, none⟩ = some (.bool v) := (A3.of h).1
theorem cellH {w : World} {g : Nat} {t : TypeId} {v : Bool} {hi lo : Int} (h : HasB w g t #[.bool v, .int .u64 hi, .int .u64 lo]) : w.cell? ⟨g, 1, none⟩ = some (.int .u64 hi) := (A3.of h).2.1
theorem cellL {w : World} {g : Nat} {t : TypeId} {v : Bool} {hi lo : Int} (h : HasB w g t #[.bool v, .int .u64 hi, .int .u64 lo]) : w.cell? ⟨g, 2, none⟩ = some (.int .u64 lo) := (A3.of h).2.2
theorem lessA_self (v : Bool) (hi lo : Int) : lessA v hi lo v hi lo = false := by simp [lessA]
theorem lessA_two (v : Bool) (hi lo : Int) (v' : Bool) (hi' lo' : Int) (h : ¬ (v = v' ∧ hi = hi' ∧ lo = lo')) :
    (lessA v hi lo v' hi' lo' = true ∧ lessA v' hi' lo' v hi lo = false) ∨ (lessA v hi lo v' hi' lo' = false ∧ lessA v' hi' lo' v hi lo = true) := by
  unfold lessA
  by_cases hv : v = v'
  · subst hv
    by_cases hh : hi = hi'
    · subst hh
      have : ¬ lo = lo' := fun hl => h ⟨rfl, rfl, hl⟩
      simp; omega
    · have : ¬ hi' = hi := fun h => hh h.symm
      simp [hh, this]; omega
  · cases v <;> cases v' <;> simp at hv ⊢
theorem textA_len (v : Bool) (hi lo : Int) : (textA v hi lo).length ≤ 100 := by
  unfold textA textB
  split
  · exact text4_len _ (by assumption)
  · split
    · exact text6_len _ (by assumption)
    · simp
set_option maxHeartbeats 2000000 in
theorem addrBack_walk (a b : Array Value) (s : ByteArray) (w2 : s.size ≤ maxLen) (w : World) (fa : Fits w (.two .bool (.two (.int .u64) (.two (.int .u64) .nil))) (Value.agg a).cells.toList) (fb : Fits w (.two .bool (.two (.int .u64) (.two (.int .u64) .nil))) (Value.agg b).cells.toList) (htab : Lib.TabIs Tryd.prog w "internal/strconv.uint64pow10" .u64 Lib.pow10Tab) :
    Calls Tryd.prog 4 #[.agg a, .agg b, .string s] w fun e w' => e = .returned (.bool true) ∧ Below w.heap.size w w' := by
  obtain ⟨v, hi, lo, rfl, ⟨h0, h1⟩, l0, l1⟩ := fits_addr fa
  obtain ⟨v', hi', lo', rfl, ⟨h0', h1'⟩, l0', l1'⟩ := fits_addr fb
  have HT : Hid (Tab w.heap.size w) := Lib.hid (Lib.tabBelow_of_tabIs htab)
  clear fa fb htab
  have hq : Below w.heap.size w ((w.alloc (.cells #[.bool v, .int .u64 hi, .int .u64 lo] 24)).alloc (.cells #[.bool v', .int .u64 hi', .int .u64 lo'] 24)) := ((Below.refl _ _).alloc (Nat.le_refl _) _).alloc (by simp) _
  have hA := (HasB.new w 24 #[.bool v, .int .u64 hi, .int .u64 lo]).alloc (.cells #[.bool v', .int .u64 hi', .int .u64 lo'] 24)
  have hB := HasB.new (w.alloc (.cells #[.bool v, .int .u64 hi, .int .u64 lo] 24)) 24 #[.bool v', .int .u64 hi', .int .u64 lo']
  rw [show (w.alloc (.cells #[.bool v, .int .u64 hi, .int .u64 lo] 24)).heap.size = w.heap.size + 1 by simp] at hB
  by_cases hl : 60 < s.size
  · have hli : (60 : Int) < s.size := by omega
    go_enter Tryd.func4, Tryd.ntmps4
    go_wp2_with (first | (go_at_call 5; refine (awake04 _).mono ?_; rintro e w1 ⟨rfl, hb1⟩) | fail)
    go_ret
    exact ⟨rfl, hq.trans (hb1.mono hq.size)⟩
  · have hli : ¬ (60 : Int) < s.size := by omega
    have ls := lessA_self v hi lo
    have gr := g_right (readB s.data.toList)
    have e0 := gHi_bd (readB s.data.toList)
    have e1 := gLo_bd (readB s.data.toList)
    have htx : gOk (readB s.data.toList) = true → ∀ W, Tab W.heap.size W → Calls Tryd.prog 14 #[.agg #[.bool (gV (readB s.data.toList)), .int .u64 (gHi (readB s.data.toList)), .int .u64 (gLo (readB s.data.toList))]] W fun e w' => e = .returned (.string s) ∧ Below W.heap.size W w' := fun ho W hT => by
      have h := text_any (gV (readB s.data.toList)) (gHi (readB s.data.toList)) (gLo (readB s.data.toList)) e0.1 e0.2 e1.1 e1.2 W hT
      rw [textA_read _ ho, Lib.mk_data] at h
      exact h
    clear e0 e1
    have hab := fun W => less_any v hi lo v' hi' lo' W
    have hba := fun W => less_any v' hi' lo' v hi lo W
    have haa := fun W => less_any v hi lo v hi lo W
    have two := lessA_two v hi lo v' hi' lo'
    have cases4 : (v = v' ∧ hi = hi' ∧ lo = lo') ∨ (v = v' ∧ hi = hi' ∧ ¬ lo = lo' ∧ ((lessA v hi lo v' hi' lo' = true ∧ lessA v' hi' lo' v hi lo = false) ∨ (lessA v hi lo v' hi' lo' = false ∧ lessA v' hi' lo' v hi lo = true))) ∨ (v = v' ∧ ¬ hi = hi' ∧ ((lessA v hi lo v' hi' lo' = true ∧ lessA v' hi' lo' v hi lo = false) ∨ (lessA v hi lo v' hi' lo' = false ∧ lessA v' hi' lo' v hi lo = true))) ∨ (¬ v = v' ∧ ((lessA v hi lo v' hi' lo' = true ∧ lessA v' hi' lo' v hi lo = false) ∨ (lessA v hi lo v' hi' lo' = false ∧ lessA v' hi' lo' v hi lo = true))) := by
      by_cases c1 : v = v'
      · by_cases c2 : hi = hi'
        · by_cases c3 : lo = lo'
          · exact .inl ⟨c1, c2, c3⟩
          · exact .inr (.inl ⟨c1, c2, c3, two (fun h => c3 h.2.2)⟩)
        · exact .inr (.inr (.inl ⟨c1, c2, two (fun h => c2 h.2.1)⟩))
      · exact .inr (.inr (.inr ⟨c1, two (fun h => c1 h.1)⟩))
    clear two
    rcases cases4 with ⟨rfl, rfl, rfl⟩ | ⟨rfl, rfl, hl3, ⟨q1, q2⟩ | ⟨q1, q2⟩⟩ | ⟨rfl, hl2, ⟨q1, q2⟩ | ⟨q1, q2⟩⟩ | ⟨hl1, ⟨q1, q2⟩ | ⟨q1, q2⟩⟩
    all_goals cases ho : gOk (readB s.data.toList)
    all_goals (try replace htx := htx ho)
    all_goals cases hr : rightA v hi lo with
      | false =>
        have hp0 : ∀ W, Calls Tryd.prog 12 #[.agg #[.bool v, .int .u64 hi, .int .u64 lo]] W fun e w' => e = .returned (.string ⟨#[]⟩) ∧ Below W.heap.size W w' := fun W => by
          have h := put_addr v hi lo h0 h1 l0 l1 W
          rw [addrB_no v hi lo hr] at h
          exact h
        have ht0 : ∀ W, Tab W.heap.size W → Calls Tryd.prog 14 #[.agg #[.bool v, .int .u64 hi, .int .u64 lo]] W fun e w' => e = .returned (.string ⟨#[]⟩) ∧ Below W.heap.size W w' := fun W hT => by
          have h := text_any v hi lo h0 h1 l0 l1 W hT
          rw [show textA v hi lo = [] by unfold textA; rw [addrB_no v hi lo hr]; rfl] at h
          exact h
        go_enter Tryd.func4, Tryd.ntmps4
        go_wp2_with (first | (go_at_call 8; with_reducible refine (read_any s w2 _).mono ?_; rintro e wn ⟨rfl, hbn⟩; replace hq := (hq.trans (hbn.mono hq.size)).alloc (Nat.le_trans hq.size hbn.size) (.cells #[.bool (gV (readB s.data.toList)), .int .u64 (gHi (readB s.data.toList)), .int .u64 (gLo (readB s.data.toList))] 24); replace hA := (HasB.below hA hbn hA.lt).alloc (.cells #[.bool (gV (readB s.data.toList)), .int .u64 (gHi (readB s.data.toList)), .int .u64 (gLo (readB s.data.toList))] 24); replace hB := (HasB.below hB hbn hB.lt).alloc (.cells #[.bool (gV (readB s.data.toList)), .int .u64 (gHi (readB s.data.toList)), .int .u64 (gLo (readB s.data.toList))] 24); have hX := HasB.new wn 24 #[.bool (gV (readB s.data.toList)), .int .u64 (gHi (readB s.data.toList)), .int .u64 (gLo (readB s.data.toList))]; have a0 := cellV hA; have a1 := cellH hA; have a2 := cellL hA; have b0 := cellV hB; have b1 := cellH hB; have b2 := cellL hB; have x0 := cellV hX; have x1 := cellH hX; have x2 := cellL hX) | (go_at_call 14; with_reducible refine (htx _ (HT.out.at hq)).mono ?_; rintro e wn ⟨rfl, hbn⟩; replace hq := hq.trans (hbn.mono hq.size); replace hA := HasB.below hA hbn hA.lt; replace hB := HasB.below hB hbn hB.lt; replace hX := HasB.below hX hbn hX.lt; have a0 := cellV hA; have a1 := cellH hA; have a2 := cellL hA; have b0 := cellV hB; have b1 := cellH hB; have b2 := cellL hB; have x0 := cellV hX; have x1 := cellH hX; have x2 := cellL hX) | (go_at_call 10; with_reducible refine (right_any (gV (readB s.data.toList)) (gHi (readB s.data.toList)) (gLo (readB s.data.toList)) _).mono ?_; rintro e wn ⟨rfl, hbn⟩; replace hq := hq.trans (hbn.mono hq.size); replace hA := HasB.below hA hbn hA.lt; replace hB := HasB.below hB hbn hB.lt; replace hX := HasB.below hX hbn hX.lt; have a0 := cellV hA; have a1 := cellH hA; have a2 := cellL hA; have b0 := cellV hB; have b1 := cellH hB; have b2 := cellL hB; have x0 := cellV hX; have x1 := cellH hX; have x2 := cellL hX) | (go_at_call 16; with_reducible refine (hab _).mono ?_; rintro e wn ⟨rfl, hbn⟩; replace hq := hq.trans (hbn.mono hq.size); replace hA := HasB.below hA hbn hA.lt; replace hB := HasB.below hB hbn hB.lt; replace hX := HasB.below hX hbn hX.lt; have a0 := cellV hA; have a1 := cellH hA; have a2 := cellL hA; have b0 := cellV hB; have b1 := cellH hB; have b2 := cellL hB; have x0 := cellV hX; have x1 := cellH hX; have x2 := cellL hX) | (go_at_call 16; with_reducible refine (hba _).mono ?_; rintro e wn ⟨rfl, hbn⟩; replace hq := hq.trans (hbn.mono hq.size); replace hA := HasB.below hA hbn hA.lt; replace hB := HasB.below hB hbn hB.lt; replace hX := HasB.below hX hbn hX.lt; have a0 := cellV hA; have a1 := cellH hA; have a2 := cellL hA; have b0 := cellV hB; have b1 := cellH hB; have b2 := cellL hB; have x0 := cellV hX; have x1 := cellH hX; have x2 := cellL hX) | (go_at_call 16; with_reducible refine (haa _).mono ?_; rintro e wn ⟨rfl, hbn⟩; replace hq := hq.trans (hbn.mono hq.size); replace hA := HasB.below hA hbn hA.lt; replace hB := HasB.below hB hbn hB.lt; replace hX := HasB.below hX hbn hX.lt; have a0 := cellV hA; have a1 := cellH hA; have a2 := cellL hA; have b0 := cellV hB; have b1 := cellH hB; have b2 := cellL hB; have x0 := cellV hX; have x1 := cellH hX; have x2 := cellL hX) | (go_at_call 10; with_reducible refine (right_any v hi lo _).mono ?_; rintro e wn ⟨rfl, hbn⟩; replace hq := hq.trans (hbn.mono hq.size); replace hA := HasB.below hA hbn hA.lt; replace hB := HasB.below hB hbn hB.lt; replace hX := HasB.below hX hbn hX.lt; have a0 := cellV hA; have a1 := cellH hA; have a2 := cellL hA; have b0 := cellV hB; have b1 := cellH hB; have b2 := cellL hB; have x0 := cellV hX; have x1 := cellH hX; have x2 := cellL hX) | (go_at_call 12; with_reducible refine (hp0 _).mono ?_; rintro e wn ⟨rfl, hbn⟩; replace hq := hq.trans (hbn.mono hq.size); replace hA := HasB.below hA hbn hA.lt; replace hB := HasB.below hB hbn hB.lt; replace hX := HasB.below hX hbn hX.lt; have a0 := cellV hA; have a1 := cellH hA; have a2 := cellL hA; have b0 := cellV hB; have b1 := cellH hB; have b2 := cellL hB; have x0 := cellV hX; have x1 := cellH hX; have x2 := cellL hX) | (go_at_call 14; with_reducible refine (ht0 _ (HT.out.at hq)).mono ?_; rintro e wn ⟨rfl, hbn⟩; replace hq := hq.trans (hbn.mono hq.size); replace hA := HasB.below hA hbn hA.lt; replace hB := HasB.below hB hbn hB.lt; replace hX := HasB.below hX hbn hX.lt; have a0 := cellV hA; have a1 := cellH hA; have a2 := cellL hA; have b0 := cellV hB; have b1 := cellH hB; have b2 := cellL hB; have x0 := cellV hX; have x1 := cellH hX; have x2 := cellL hX) | (go_at_call 5; with_reducible refine (awake04 _).mono ?_; rintro e wn ⟨rfl, hbn⟩; replace hq := hq.trans (hbn.mono hq.size); replace hA := HasB.below hA hbn hA.lt; replace hB := HasB.below hB hbn hB.lt; replace hX := HasB.below hX hbn hX.lt; have a0 := cellV hA; have a1 := cellH hA; have a2 := cellL hA; have b0 := cellV hB; have b1 := cellH hB; have b2 := cellL hB; have x0 := cellV hX; have x1 := cellH hX; have x2 := cellL hX) | fail)
        all_goals
          go_ret
          exact ⟨rfl, hq⟩
      | true =>
        have hgg := g_addrB v hi lo hr h0 h1 l0 l1
        have hg : ∀ W, Calls Tryd.prog 6 #[.string ⟨(addrB v hi lo).toArray⟩] W fun e w' => e = .returned (.tuple #[.agg #[.bool v, .int .u64 hi, .int .u64 lo], .bool true]) ∧ Below W.heap.size W w' := fun W => by
          have h := get_addr ⟨(addrB v hi lo).toArray⟩ (by rcases addrB_lens v hi lo with h | h | h <;> simp [ByteArray.size, h, maxLen]) W
          rw [show (⟨(addrB v hi lo).toArray⟩ : ByteArray).data.toList = addrB v hi lo by simp, hgg.1, hgg.2.1, hgg.2.2.1, hgg.2.2.2] at h
          exact h
        have hr2 : ∀ W, Calls Tryd.prog 8 #[.string ⟨(textA v hi lo).toArray⟩] W fun e w' => e = .returned (.tuple #[.agg #[.bool v, .int .u64 hi, .int .u64 lo], .bool true]) ∧ Below W.heap.size W w' := fun W => by
          have h := read_any ⟨(textA v hi lo).toArray⟩ (Nat.le_trans (textA_len v hi lo) (by decide)) W
          rw [show (⟨(textA v hi lo).toArray⟩ : ByteArray).data.toList = textA v hi lo by simp, readA_text v hi lo hr h0 h1 l0 l1, hgg.1, hgg.2.1, hgg.2.2.1, hgg.2.2.2] at h
          exact h
        clear hgg
        go_enter Tryd.func4, Tryd.ntmps4
        go_wp2_with (first | (go_at_call 8; with_reducible refine (read_any s w2 _).mono ?_; rintro e wn ⟨rfl, hbn⟩; replace hq := (hq.trans (hbn.mono hq.size)).alloc (Nat.le_trans hq.size hbn.size) (.cells #[.bool (gV (readB s.data.toList)), .int .u64 (gHi (readB s.data.toList)), .int .u64 (gLo (readB s.data.toList))] 24); replace hA := (HasB.below hA hbn hA.lt).alloc (.cells #[.bool (gV (readB s.data.toList)), .int .u64 (gHi (readB s.data.toList)), .int .u64 (gLo (readB s.data.toList))] 24); replace hB := (HasB.below hB hbn hB.lt).alloc (.cells #[.bool (gV (readB s.data.toList)), .int .u64 (gHi (readB s.data.toList)), .int .u64 (gLo (readB s.data.toList))] 24); have hX := HasB.new wn 24 #[.bool (gV (readB s.data.toList)), .int .u64 (gHi (readB s.data.toList)), .int .u64 (gLo (readB s.data.toList))]; have a0 := cellV hA; have a1 := cellH hA; have a2 := cellL hA; have b0 := cellV hB; have b1 := cellH hB; have b2 := cellL hB; have x0 := cellV hX; have x1 := cellH hX; have x2 := cellL hX) | (go_at_call 14; with_reducible refine (htx _ (HT.out.at hq)).mono ?_; rintro e wn ⟨rfl, hbn⟩; replace hq := hq.trans (hbn.mono hq.size); replace hA := HasB.below hA hbn hA.lt; replace hB := HasB.below hB hbn hB.lt; replace hX := HasB.below hX hbn hX.lt; have a0 := cellV hA; have a1 := cellH hA; have a2 := cellL hA; have b0 := cellV hB; have b1 := cellH hB; have b2 := cellL hB; have x0 := cellV hX; have x1 := cellH hX; have x2 := cellL hX) | (go_at_call 10; with_reducible refine (right_any (gV (readB s.data.toList)) (gHi (readB s.data.toList)) (gLo (readB s.data.toList)) _).mono ?_; rintro e wn ⟨rfl, hbn⟩; replace hq := hq.trans (hbn.mono hq.size); replace hA := HasB.below hA hbn hA.lt; replace hB := HasB.below hB hbn hB.lt; replace hX := HasB.below hX hbn hX.lt; have a0 := cellV hA; have a1 := cellH hA; have a2 := cellL hA; have b0 := cellV hB; have b1 := cellH hB; have b2 := cellL hB; have x0 := cellV hX; have x1 := cellH hX; have x2 := cellL hX) | (go_at_call 16; with_reducible refine (hab _).mono ?_; rintro e wn ⟨rfl, hbn⟩; replace hq := hq.trans (hbn.mono hq.size); replace hA := HasB.below hA hbn hA.lt; replace hB := HasB.below hB hbn hB.lt; replace hX := HasB.below hX hbn hX.lt; have a0 := cellV hA; have a1 := cellH hA; have a2 := cellL hA; have b0 := cellV hB; have b1 := cellH hB; have b2 := cellL hB; have x0 := cellV hX; have x1 := cellH hX; have x2 := cellL hX) | (go_at_call 16; with_reducible refine (hba _).mono ?_; rintro e wn ⟨rfl, hbn⟩; replace hq := hq.trans (hbn.mono hq.size); replace hA := HasB.below hA hbn hA.lt; replace hB := HasB.below hB hbn hB.lt; replace hX := HasB.below hX hbn hX.lt; have a0 := cellV hA; have a1 := cellH hA; have a2 := cellL hA; have b0 := cellV hB; have b1 := cellH hB; have b2 := cellL hB; have x0 := cellV hX; have x1 := cellH hX; have x2 := cellL hX) | (go_at_call 16; with_reducible refine (haa _).mono ?_; rintro e wn ⟨rfl, hbn⟩; replace hq := hq.trans (hbn.mono hq.size); replace hA := HasB.below hA hbn hA.lt; replace hB := HasB.below hB hbn hB.lt; replace hX := HasB.below hX hbn hX.lt; have a0 := cellV hA; have a1 := cellH hA; have a2 := cellL hA; have b0 := cellV hB; have b1 := cellH hB; have b2 := cellL hB; have x0 := cellV hX; have x1 := cellH hX; have x2 := cellL hX) | (go_at_call 10; with_reducible refine (right_any v hi lo _).mono ?_; rintro e wn ⟨rfl, hbn⟩; replace hq := hq.trans (hbn.mono hq.size); replace hA := HasB.below hA hbn hA.lt; replace hB := HasB.below hB hbn hB.lt; replace hX := HasB.below hX hbn hX.lt; have a0 := cellV hA; have a1 := cellH hA; have a2 := cellL hA; have b0 := cellV hB; have b1 := cellH hB; have b2 := cellL hB; have x0 := cellV hX; have x1 := cellH hX; have x2 := cellL hX) | (go_at_call 12; with_reducible refine (put_addr v hi lo h0 h1 l0 l1 _).mono ?_; rintro e wn ⟨rfl, hbn⟩; replace hq := hq.trans (hbn.mono hq.size); replace hA := HasB.below hA hbn hA.lt; replace hB := HasB.below hB hbn hB.lt; replace hX := HasB.below hX hbn hX.lt; have a0 := cellV hA; have a1 := cellH hA; have a2 := cellL hA; have b0 := cellV hB; have b1 := cellH hB; have b2 := cellL hB; have x0 := cellV hX; have x1 := cellH hX; have x2 := cellL hX) | (go_at_call 6; with_reducible refine (hg _).mono ?_; rintro e wn ⟨rfl, hbn⟩; replace hq := (hq.trans (hbn.mono hq.size)).alloc (Nat.le_trans hq.size hbn.size) (.cells #[.bool v, .int .u64 hi, .int .u64 lo] 24); replace hA := (HasB.below hA hbn hA.lt).alloc (.cells #[.bool v, .int .u64 hi, .int .u64 lo] 24); replace hB := (HasB.below hB hbn hB.lt).alloc (.cells #[.bool v, .int .u64 hi, .int .u64 lo] 24); replace hX := (HasB.below hX hbn hX.lt).alloc (.cells #[.bool v, .int .u64 hi, .int .u64 lo] 24); have hY := HasB.new wn 24 #[.bool v, .int .u64 hi, .int .u64 lo]; have a0 := cellV hA; have a1 := cellH hA; have a2 := cellL hA; have b0 := cellV hB; have b1 := cellH hB; have b2 := cellL hB; have x0 := cellV hX; have x1 := cellH hX; have x2 := cellL hX; have y0 := cellV hY; have y1 := cellH hY; have y2 := cellL hY) | (go_at_call 14; with_reducible refine (text_any v hi lo h0 h1 l0 l1 _ (HT.out.at hq)).mono ?_; rintro e wn ⟨rfl, hbn⟩; replace hq := hq.trans (hbn.mono hq.size); replace hA := HasB.below hA hbn hA.lt; replace hB := HasB.below hB hbn hB.lt; replace hX := HasB.below hX hbn hX.lt; replace hY := HasB.below hY hbn hY.lt; have a0 := cellV hA; have a1 := cellH hA; have a2 := cellL hA; have b0 := cellV hB; have b1 := cellH hB; have b2 := cellL hB; have x0 := cellV hX; have x1 := cellH hX; have x2 := cellL hX; have y0 := cellV hY; have y1 := cellH hY; have y2 := cellL hY) | (go_at_call 8; with_reducible refine (hr2 _).mono ?_; rintro e wn ⟨rfl, hbn⟩; replace hq := (hq.trans (hbn.mono hq.size)).alloc (Nat.le_trans hq.size hbn.size) (.cells #[.bool v, .int .u64 hi, .int .u64 lo] 24); replace hA := (HasB.below hA hbn hA.lt).alloc (.cells #[.bool v, .int .u64 hi, .int .u64 lo] 24); replace hB := (HasB.below hB hbn hB.lt).alloc (.cells #[.bool v, .int .u64 hi, .int .u64 lo] 24); replace hX := (HasB.below hX hbn hX.lt).alloc (.cells #[.bool v, .int .u64 hi, .int .u64 lo] 24); replace hY := (HasB.below hY hbn hY.lt).alloc (.cells #[.bool v, .int .u64 hi, .int .u64 lo] 24); have hZ := HasB.new wn 24 #[.bool v, .int .u64 hi, .int .u64 lo]; have a0 := cellV hA; have a1 := cellH hA; have a2 := cellL hA; have b0 := cellV hB; have b1 := cellH hB; have b2 := cellL hB; have x0 := cellV hX; have x1 := cellH hX; have x2 := cellL hX; have y0 := cellV hY; have y1 := cellH hY; have y2 := cellL hY; have z0 := cellV hZ; have z1 := cellH hZ; have z2 := cellL hZ) | (go_at_call 5; with_reducible refine (awake04 _).mono ?_; rintro e wn ⟨rfl, hbn⟩; replace hq := hq.trans (hbn.mono hq.size); replace hA := HasB.below hA hbn hA.lt; replace hB := HasB.below hB hbn hB.lt; replace hX := HasB.below hX hbn hX.lt; replace hY := HasB.below hY hbn hY.lt; replace hZ := HasB.below hZ hbn hZ.lt; have a0 := cellV hA; have a1 := cellH hA; have a2 := cellL hA; have b0 := cellV hB; have b1 := cellH hB; have b2 := cellL hB; have x0 := cellV hX; have x1 := cellH hX; have x2 := cellL hX; have y0 := cellV hY; have y1 := cellH hY; have y2 := cellL hY; have z0 := cellV hZ; have z1 := cellH hZ; have z2 := cellL hZ) | fail)
        all_goals
          go_ret
          exact ⟨rfl, hq⟩
end Go.Proofs.YtohnojdofilpnaaDoor

/- The walk of the law OctetReads. -/
import Derived.Test.YthnfokjpddjddaaLaw02
import Derived.Test.YthnfokjpddjddaaShapes
import Derived.Deep.RegionHeld3
import Derived.Deep.DrawnRows
namespace Go.Proofs.Ythnfokjpddjddaa
open Go.RowKit Go.WideShapes
set_option linter.unusedVariables false

attribute [local go_sem ↓] Go.wp_at_zero Go.wp_at_succ
theorem Rd.kept {S : Nat → Prop} {w w' : World} {b c : Nat} {st : Option ByteArray} (h : Rd w b c st) (hk : Kept S w w') (hb : ¬ S b) (hc : ¬ S c) : Rd w' b c st := by
  cases st with
  | none => exact HasB.kept h hk hb
  | some s => exact ⟨h.1.kept hk hb, h.2.1.kept hk hc, h.2.2⟩
theorem Rx.kept {S : Nat → Prop} {w w' : World} {x : Nat} {st : Option ByteArray} (h : R02.Rx w x st) (hk : Kept S w w') (hx : ¬ S x) : R02.Rx w' x st := by
  obtain ⟨s, h1, h2⟩ := h
  exact ⟨s, h1.kept hk hx, h2⟩
theorem textR_size {st : Option ByteArray} {n : Int} (hs : ∀ t, st = some t → t.size ≤ maxLen) : ∀ t, (textR st n).2 = some t → t.size ≤ maxLen := by
  intro t ht
  cases st with
  | none => cases ht
  | some s =>
    by_cases h : 0 ≤ n ∧ n ≤ s.size
    · rw [textR_ok h.1 h.2] at ht; cases ht; simp; have := hs s rfl; omega
    · rw [textR_no h] at ht; cases ht
theorem numR_size {st : Option ByteArray} {n : Int} (hs : ∀ t, st = some t → t.size ≤ maxLen) : ∀ t, (numR st n).2 = some t → t.size ≤ maxLen := by
  intro t ht
  unfold numR at ht
  split at ht
  · exact textR_size hs t ht
  · cases ht
theorem restR_size {st : Option ByteArray} (hs : ∀ t, st = some t → t.size ≤ maxLen) : ∀ t, (restR st).2 = some t → t.size ≤ maxLen := by
  intro t ht
  cases st with
  | none => cases ht
  | some s => cases ht; rw [ByteArray.size_extract]; have := hs s rfl; omega
set_option maxHeartbeats 1000000 in
theorem octetReads_some (s : ByteArray) (a : Addr) (n cap : Nat) (K N : Nat → Int) (w2 : s.size ≤ maxLen) (hn : n ≤ cap) (hcap : cap ≤ maxLen) (w : World)
    (hK : ∀ i, i < n → w.cell? (a.add (i * 2)) = some (.int .i64 (K i)) ∧ w.cell? (a.add (i * 2 + 1)) = some (.int .i64 (N i)) ) :
    Calls Try.prog 4 #[.string s, .slice (some a) n cap] w fun e w' => e = .returned (.bool true) ∧ Below w.heap.size w w' := by
  have HK := Lib.hid hK
  clear hK
  unfold maxLen at w2 hcap
  by_cases h60 : 60 < s.size
  · go_enter Try.func4, Try.ntmps4
    go_wp2_with (go_at_call 6; refine (awake02 _).mono ?_; rintro e w' ⟨rfl, hb⟩)
    go_ret
    exact ⟨rfl, hb⟩
  · by_cases h20 : 20 < n
    · go_enter Try.func4, Try.ntmps4
      go_wp2_with (go_at_call 6; refine (awake02 _).mono ?_; rintro e w' ⟨rfl, hb⟩)
      go_ret
      exact ⟨rfl, hb⟩
    · go_enter Try.func4, Try.ntmps4
      go_wp2_with (go_at_call 15; refine (new_any _ _).mono ?_; rintro e w4 ⟨rfl, rfl⟩)
      go_loopw [7] (fun i wr => ∃ (k : Nat) (st : Option ByteArray), k ≤ n ∧ i = .int .i64 k ∧ Hid (Rd wr (w.heap.size + 1) w.heap.size st) ∧ Hid (R02.Rx wr (w.heap.size + 1 + 1) st) ∧ Below w.heap.size w wr ∧ Hid (∀ t, st = some t → t.size ≤ maxLen)) (fun i _ => n - (intOf i).toNat)
      case atStart =>
        have g1 := rd_new s w
        have g2 := HasB.new ((w.alloc (.cells #[.string s] 9)).alloc (.cells #[.pointer (some ⟨w.heap.size, 0, none⟩)] 44)) 36 #[.string s, .bool false]
        rw [show ((w.alloc (.cells #[.string s] 9)).alloc (.cells #[.pointer (some ⟨w.heap.size, 0, none⟩)] 44)).heap.size = w.heap.size + 1 + 1 by simp] at g2
        refine ⟨0, some s, by omega, rfl, Lib.hid ⟨g1.1.alloc _, g1.2.1.alloc _, g1.2.2⟩, Lib.hid ⟨s, g2, .inl rfl⟩, (((Below.refl _ w).alloc (Nat.le_refl _) _).alloc (by simp) _).alloc (by simp; omega) _, Lib.hid (fun t ht => by cases ht; unfold maxLen; omega)⟩
      case round =>
        obtain ⟨k, st, hk, rfl, HR, HX, hb, HS⟩ := hrel
        by_cases hkn : k < n
        · obtain ⟨c0, c1⟩ := HK.out k hkn
          have hsp := cell_plain (HK.out 0 (by omega)).1
          rw [Nat.zero_mul, add_zero'] at hsp
          obtain ⟨b, o, rfl⟩ := addr_plain hsp
          rw [add_plain'] at c0 c1
          have hlt' : b < w.heap.size := World.block_lt_of_cell? w _ c0
          have d0 := (hb.cell (p := ⟨b, o + k * 2, none⟩) hlt').trans c0
          have d1 : wr.cell? ⟨b, o + k * 2 + 1, none⟩ = some (.int .i64 (N k)) := (hb.cell (p := ⟨b, o + (k * 2 + 1), none⟩) hlt').trans c1
          clear c0 c1 hsp
          have hbs := hb.size
          by_cases hz : K k = 0
          · have t0 : (K k == 0) = true := by simpa using hz
            clear hz
            go_wp2_with fail
            go_region_held3 (fun w' => w'.cell? ⟨b, o + k * 2 + 1, none⟩ = some (.int .i64 (N k))) (first | exact d1 | exact (Kept.cell K2.out ⟨b, o + k * 2 + 1, none⟩ (by show b < w1.heap.size; omega) (by show ¬ (b = _); omega)).trans ((Kept.cell K1.out ⟨b, o + k * 2 + 1, none⟩ (by exact Nat.lt_of_lt_of_le hlt' hbs) (by show ¬ (b = _ ∨ b = _); omega)).trans d1) | exact (Kept.cell K1.out ⟨b, o + k * 2 + 1, none⟩ (by exact Nat.lt_of_lt_of_le hlt' hbs) (by show ¬ (b = _ ∨ b = _); omega)).trans d1) (first | (go_at_call 16; refine (Calls.mono (num_any (w.heap.size + 1) w.heap.size st (N k) _ (by exact HR.out) HS.out) ?_); rintro e w1 ⟨rfl, h1, k1⟩; have H1 := Lib.hid h1; have K1 : Hid (Kept (fun k => k = w.heap.size + 1 ∨ k = w.heap.size) wr w1) := Lib.hid (by first | exact k1 | exact k1.ofDrew); have HX1 := Lib.hid (Rx.kept HX.out K1.out (by omega)); have z1 := K1.out.size; clear h1 k1) | (go_at_call 17; refine (Calls.mono (R02.num_any (w.heap.size + 1 + 1) st (N k) _ (by exact HX1.out) HS.out) ?_); rintro e w2 ⟨rfl, h2, k2⟩; have H2 := Lib.hid h2; have K2 : Hid (Kept (fun k => k = w.heap.size + 1 + 1) w1 w2) := Lib.hid (by first | exact k2 | exact k2.ofDrew); have z2 := k2.size; clear h2 k2))
            have HR2 : Hid (Rd w2 (w.heap.size + 1) w.heap.size (numR st (N k)).2) := Lib.hid (Rd.kept H1.out K2.out (by omega) (by omega))
            have HB2 : Hid (Below w.heap.size w w2) := Lib.hid ((hb.trans (K1.out.below (B := w.heap.size) hbs (fun i hi => by omega))).trans (K2.out.below (by omega) (fun i hi => by omega)))
            have HS2 : Hid (∀ t, (numR st (N k)).2 = some t → t.size ≤ maxLen) := Lib.hid (numR_size HS.out)
            obtain ⟨s3, hx3, he3⟩ := H2.out
            have f3 := hx3.free 1
            have d3 : w2.cell? ⟨w.heap.size + 1 + 1, 1, none⟩ = some (.bool (badR (numR st (N k)).2)) := hx3.cell 1 _ rfl
            clear hx3 he3 HR HX HS H1 d0 d1 hb
            go_wp2_with fail
            go_quiet ((go_at_call 22; exact quietL (bad_any (w.heap.size + 1) w.heap.size (numR st (N k)).2 _ (by exact HR2.out))))
            go_wp2
            go_roundw
            case rel => exact ⟨k + 1, (numR st (N k)).2, by omega, by go_num, Lib.hid (by exact HR2.out), Lib.hid (by exact H2.out), below_drewN HB2.out _, HS2⟩
            case measure => simp [intOf]; omega
          · have t0 : (K k == 0) = false := by simpa using hz
            clear hz
            by_cases hz1 : K k = 1
            · have t1 : (K k == 1) = true := by simpa using hz1
              clear hz1
              go_wp2_with fail
              go_region_held3 (fun w' => w'.cell? ⟨b, o + k * 2 + 1, none⟩ = some (.int .i64 (N k))) (first | exact d1 | exact (Kept.cell K2.out ⟨b, o + k * 2 + 1, none⟩ (by show b < w1.heap.size; omega) (by show ¬ (b = _); omega)).trans ((Kept.cell K1.out ⟨b, o + k * 2 + 1, none⟩ (by exact Nat.lt_of_lt_of_le hlt' hbs) (by show ¬ (b = _ ∨ b = _); omega)).trans d1) | exact (Kept.cell K1.out ⟨b, o + k * 2 + 1, none⟩ (by exact Nat.lt_of_lt_of_le hlt' hbs) (by show ¬ (b = _ ∨ b = _); omega)).trans d1) (first | (go_at_call 18; refine (Calls.mono (text_any (w.heap.size + 1) w.heap.size st (N k) _ (by exact HR.out) HS.out) ?_); rintro e w1 ⟨rfl, h1, k1⟩; have H1 := Lib.hid h1; have K1 : Hid (Kept (fun k => k = w.heap.size + 1 ∨ k = w.heap.size) wr w1) := Lib.hid (by first | exact k1 | exact k1.ofDrew); have HX1 := Lib.hid (Rx.kept HX.out K1.out (by omega)); have z1 := K1.out.size; clear h1 k1) | (go_at_call 19; refine (Calls.mono (R02.text_any (w.heap.size + 1 + 1) st (N k) _ (by exact HX1.out) HS.out) ?_); rintro e w2 ⟨rfl, h2, k2⟩; have H2 := Lib.hid h2; have K2 : Hid (Kept (fun k => k = w.heap.size + 1 + 1) w1 w2) := Lib.hid (by first | exact k2 | exact k2.ofDrew); have z2 := k2.size; clear h2 k2))
              have HR2 : Hid (Rd w2 (w.heap.size + 1) w.heap.size (textR st (N k)).2) := Lib.hid (Rd.kept H1.out K2.out (by omega) (by omega))
              have HB2 : Hid (Below w.heap.size w w2) := Lib.hid ((hb.trans (K1.out.below (B := w.heap.size) hbs (fun i hi => by omega))).trans (K2.out.below (by omega) (fun i hi => by omega)))
              have HS2 : Hid (∀ t, (textR st (N k)).2 = some t → t.size ≤ maxLen) := Lib.hid (textR_size HS.out)
              obtain ⟨s3, hx3, he3⟩ := H2.out
              have f3 := hx3.free 1
              have d3 : w2.cell? ⟨w.heap.size + 1 + 1, 1, none⟩ = some (.bool (badR (textR st (N k)).2)) := hx3.cell 1 _ rfl
              clear hx3 he3 HR HX HS H1 d0 d1 hb
              go_wp2_with fail
              go_quiet ((go_at_call 22; exact quietL (bad_any (w.heap.size + 1) w.heap.size (textR st (N k)).2 _ (by exact HR2.out))))
              go_wp2
              go_roundw
              case rel => exact ⟨k + 1, (textR st (N k)).2, by omega, by go_num, Lib.hid (by exact HR2.out), Lib.hid (by exact H2.out), below_drewN HB2.out _, HS2⟩
              case measure => simp [intOf]; omega
            · have t1 : (K k == 1) = false := by simpa using hz1
              clear hz1
              go_wp2_with (first | (go_at_call 20; refine (Calls.mono (rest_any (w.heap.size + 1) w.heap.size st _ (by exact HR.out) HS.out) ?_); rintro e w1 ⟨rfl, h1, k1⟩; have H1 := Lib.hid h1; have K1 : Hid (Kept (fun k => k = w.heap.size + 1 ∨ k = w.heap.size) wr w1) := Lib.hid (by first | exact k1 | exact k1.ofDrew); have HX1 := Lib.hid (Rx.kept HX.out K1.out (by omega)); have z1 := K1.out.size; clear h1 k1) | (go_at_call 21; refine (Calls.mono (R02.rest_any (w.heap.size + 1 + 1) st _ (by exact HX1.out) HS.out) ?_); rintro e w2 ⟨rfl, h2, k2⟩; have H2 := Lib.hid h2; have K2 : Hid (Kept (fun k => k = w.heap.size + 1 + 1) w1 w2) := Lib.hid (by first | exact k2 | exact k2.ofDrew); have z2 := k2.size; clear h2 k2))
              have HR2 : Hid (Rd w2 (w.heap.size + 1) w.heap.size (restR st).2) := Lib.hid (Rd.kept H1.out K2.out (by omega) (by omega))
              have HB2 : Hid (Below w.heap.size w w2) := Lib.hid ((hb.trans (K1.out.below (B := w.heap.size) hbs (fun i hi => by omega))).trans (K2.out.below (by omega) (fun i hi => by omega)))
              have HS2 : Hid (∀ t, (restR st).2 = some t → t.size ≤ maxLen) := Lib.hid (restR_size HS.out)
              obtain ⟨s3, hx3, he3⟩ := H2.out
              have f3 := hx3.free 1
              have d3 : w2.cell? ⟨w.heap.size + 1 + 1, 1, none⟩ = some (.bool (badR (restR st).2)) := hx3.cell 1 _ rfl
              clear hx3 he3 HR HX HS H1 d0 d1 hb
              go_quiet ((go_at_call 22; exact quietL (bad_any (w.heap.size + 1) w.heap.size (restR st).2 _ (by exact HR2.out))))
              go_wp2
              go_roundw
              case rel => exact ⟨k + 1, (restR st).2, by omega, by go_num, Lib.hid (by exact HR2.out), Lib.hid (by exact H2.out), below_drewN HB2.out _, HS2⟩
              case measure => simp [intOf]; omega
        · have hbs := hb.size
          clear HR HX HS
          go_wp2_with fail
          refine (num_nil _ _).mono ?_
          rintro e w1 ⟨rfl, rfl⟩
          go_wp2_with fail
          refine (text_nil _ _).mono ?_
          rintro e w1 ⟨rfl, rfl⟩
          go_wp2_with fail
          refine (rest_nil _).mono ?_
          rintro e w1 ⟨rfl, rfl⟩
          go_wp2_with fail
          refine (bad_nil _).mono ?_
          rintro e w1 ⟨rfl, rfl⟩
          go_wp2_with fail
          have hr := Lib.hid (HasB.new wr 44 #[.pointer none])
          refine (text_none wr.heap.size _ _ hr.out).mono ?_
          rintro e w1 ⟨rfl, rfl⟩
          go_wp2_with fail
          refine (bad_any wr.heap.size 0 none _ hr.out).mono ?_
          rintro e w1 ⟨rfl, rfl⟩
          have hbt : badR none = true := rfl
          go_wp2_with fail
          refine (awake02 _).mono ?_
          rintro e w2 ⟨rfl, hb2⟩
          go_wp2
          go_ret
          exact ⟨rfl, (hb.alloc hbs _).trans (hb2.mono (by simp; omega))⟩
theorem octetReads_nil (s : ByteArray) (w2 : s.size ≤ maxLen) (w : World) :
    Calls Try.prog 4 #[.string s, .slice none 0 0] w fun e w' => e = .returned (.bool true) ∧ Below w.heap.size w w' := by
  unfold maxLen at w2
  by_cases h60 : 60 < s.size
  · go_enter Try.func4, Try.ntmps4
    go_wp2_with (go_at_call 6; refine (awake02 _).mono ?_; rintro e w' ⟨rfl, hb⟩)
    go_ret
    exact ⟨rfl, hb⟩
  · go_enter Try.func4, Try.ntmps4
    go_wp2_with (go_at_call 15; refine (new_any _ _).mono ?_; rintro e w4 ⟨rfl, rfl⟩)
    refine wp_loop_rounds 1 ?_
    rw [rounds_succ]
    have hb : Below w.heap.size w (((w.alloc (.cells #[.string s] 9)).alloc (.cells #[.pointer (some ⟨w.heap.size, 0, none⟩)] 44)).alloc (.cells #[.string s, .bool false] 36)) := (((Below.refl _ w).alloc (Nat.le_refl _) _).alloc (by simp) _).alloc (by simp; omega) _
    have hbs := hb.size
    generalize (((w.alloc (.cells #[.string s] 9)).alloc (.cells #[.pointer (some ⟨w.heap.size, 0, none⟩)] 44)).alloc (.cells #[.string s, .bool false] 36)) = wr at *
    go_wp2_with fail
    refine (num_nil _ _).mono ?_
    rintro e w1 ⟨rfl, rfl⟩
    go_wp2_with fail
    refine (text_nil _ _).mono ?_
    rintro e w1 ⟨rfl, rfl⟩
    go_wp2_with fail
    refine (rest_nil _).mono ?_
    rintro e w1 ⟨rfl, rfl⟩
    go_wp2_with fail
    refine (bad_nil _).mono ?_
    rintro e w1 ⟨rfl, rfl⟩
    go_wp2_with fail
    have hr := Lib.hid (HasB.new wr 44 #[.pointer none])
    refine (text_none wr.heap.size _ _ hr.out).mono ?_
    rintro e w1 ⟨rfl, rfl⟩
    go_wp2_with fail
    refine (bad_any wr.heap.size 0 none _ hr.out).mono ?_
    rintro e w1 ⟨rfl, rfl⟩
    have hbt : badR none = true := rfl
    go_wp2_with fail
    refine (awake02 _).mono ?_
    rintro e w2 ⟨rfl, hb2⟩
    go_wp2
    go_ret
    exact ⟨rfl, (hb.alloc hbs _).trans (hb2.mono (by simp; omega))⟩
/-- A slice of structs of two numbers. -/
theorem fits_pairs {w : World} {k0 k1 : IntKind} {A : Option Addr} {n c : Nat} (h : Fits w (.sl (.two (.int k0) (.two (.int k1) .nil))) [.slice A n c]) :
    (A = none ∧ n = 0 ∧ c = 0) ∨ ∃ (a : Addr) (K N : Nat → Int), A = some a ∧ n ≤ c ∧ c ≤ maxLen ∧ ∀ i, i < n → (w.cell? (a.add (i * 2)) = some (.int k0 (K i)) ∧ w.cell? (a.add (i * 2 + 1)) = some (.int k1 (N i))) ∧ (Lit.int k0 (K i)).wf = true ∧ (Lit.int k1 (N i)).wf = true := by
  rcases h with h | ⟨a, n', c', h, h1, h2, h3⟩
  · simp only [List.cons.injEq, Value.slice.injEq, and_true] at h
    exact .inl h
  · simp only [List.cons.injEq, Value.slice.injEq, and_true] at h
    obtain ⟨rfl, rfl, rfl⟩ := h
    have each : ∀ i, i < n → ∃ q : Int × Int, (w.cell? (a.add (i * 2)) = some (.int k0 q.1) ∧ w.cell? (a.add (i * 2 + 1)) = some (.int k1 q.2)) ∧ (Lit.int k0 q.1).wf = true ∧ (Lit.int k1 q.2).wf = true := by
      intro i hi
      obtain ⟨cs, _, hc, c1, c2, rfl, _, ⟨x, rfl, hx⟩, d1, d2, rfl, _, ⟨y, rfl, hy⟩, rfl⟩ := h3 i hi
      exact ⟨(x, y), ⟨hc 0 _ rfl, hc 1 _ rfl⟩, hx, hy⟩
    obtain ⟨q, hq⟩ := Deep.choose_lt each
    exact .inr ⟨a, fun i => (q i).1, fun i => (q i).2, rfl, h1, h2, hq⟩
theorem octetReads_walk (s : ByteArray) (A : Option Addr) (n c : Nat) (w2 : s.size ≤ maxLen) (w : World) (f : Fits w (.sl (.two (.int .i64) (.two (.int .i64) .nil))) [.slice A n c]) :
    Calls Try.prog 4 #[.string s, .slice A n c] w fun e w' => e = .returned (.bool true) ∧ Below w.heap.size w w' := by
  rcases fits_pairs f with ⟨rfl, rfl, rfl⟩ | ⟨a, K, N, rfl, h1, h2, h3⟩
  · exact octetReads_nil s w2 w
  · exact octetReads_some s a n c K N w2 h1 h2 w (fun i hi => (h3 i hi).1)
end Go.Proofs.Ythnfokjpddjddaa

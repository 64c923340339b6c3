/- The contracts of cloakroomref09: id, Get, With. -/
import Derived.Test.YtniaelmloealbaaRef09Put
import Derived.Test.YtniaelmloealbaaRef02At
import Derived.BigQuiet
namespace Go.Proofs.Ytniaelmloealbaa.R09
open Go.RowKit
set_option linter.unusedVariables false
attribute [local go_sem ↓] ldH9 stH9 ldR9 stR9
attribute [local go_sem] rowAt_p rowOkAt_p setAt_p aggOf_a rowOk_new rowOf_new setRow_new agg9 aggT9
attribute [local go_sem ↓] Go.wp_at_zero Go.wp_at_succ

theorem ret_sii {a b : ByteArray} {x y u v : Int} (h : a = b) (g : x = y) (k : u = v) : Ending.returned (.tuple #[.string a, .int .i64 x, .int .i64 u]) = .returned (.tuple #[.string b, .int .i64 y, .int .i64 v]) := by rw [h, g, k]
theorem id_any (s : ByteArray) (i : Nat) (hs : s.size ≤ 1099511627776) (hi : i ≤ 1099511627776) (w : World) : Calls Try.prog 27 #[.string s, .int .i64 (i : Nat)] w fun e w' => e = .returned (.tuple #[.string (idT s i), .int .i64 (idE s i), .int .i64 (idN s i : Nat)]) ∧ w = w' := by
  by_cases h1 : s.size ≤ i
  · have he : idE s i = 2 := if_pos h1
    obtain ⟨t1, t2⟩ := idE_no (s := s) (i := i) (by omega)
    rw [he, t1, t2]
    have y1 : (s.size : Int) ≤ i := by omega
    clear h1 he t1 t2
    (go_enter Try.func27, Try.ntmps27; go_wp2_with fail)
    go_ret3
    exact ⟨rfl, rfl⟩
  · have hlt : i < s.size := by omega
    have q0 := byte_at s i hlt
    have b0 := bt_lt s i
    have y1 : ¬ (s.size : Int) ≤ i := by omega
    have j0 : (i : Int) < s.size := by omega
    have j1 : (0 : Int) ≤ (i : Int) := by omega
    have x1 : IntKind.i64.wrap (bt s i : Nat) = (bt s i : Nat) := IntWalk.i64_in _ (by omega)
    by_cases h2 : 20 < bt s i
    · have he : idE s i = 3 := by unfold idE; rw [if_neg h1, if_pos h2]
      obtain ⟨t1, t2⟩ := idE_no (s := s) (i := i) (by omega)
      rw [he, t1, t2]
      have y2 : (20 : Int) < (bt s i : Nat) := by omega
      clear h1 h2 he t1 t2
      (go_enter Try.func27, Try.ntmps27; go_wp2_with fail)
      go_ret3
      exact ⟨rfl, rfl⟩
    · have y2 : ¬ (20 : Int) < (bt s i : Nat) := by omega
      have x2 : IntKind.i64.wrap ((s.size : Int) - (i : Int)) = (s.size : Int) - (i : Int) := IntWalk.i64_in _ (by omega)
      have x3 : IntKind.i64.wrap ((s.size : Int) - (i : Int) - 1) = (s.size : Int) - (i : Int) - 1 := IntWalk.i64_in _ (by omega)
      by_cases h3 : s.size - i - 1 < bt s i
      · have he : idE s i = 2 := by unfold idE; rw [if_neg h1, if_neg h2, if_pos h3]
        obtain ⟨t1, t2⟩ := idE_no (s := s) (i := i) (by omega)
        rw [he, t1, t2]
        have y3 : (s.size : Int) - (i : Int) - 1 < (bt s i : Nat) := by omega
        clear h1 h2 h3 he t1 t2
        (go_enter Try.func27, Try.ntmps27; go_wp2_with fail)
        go_ret3
        exact ⟨rfl, rfl⟩
      · have he : idE s i = 0 := idE_is (by omega) (by omega) (by omega)
        obtain ⟨_, _, _, t1, t2⟩ := idE_ok he
        have y3 : ¬ (s.size : Int) - (i : Int) - 1 < (bt s i : Nat) := by omega
        have x4 : IntKind.i64.wrap ((i : Int) + 1) = (i : Int) + 1 := IntWalk.i64_in _ (by omega)
        have x5 : IntKind.i64.wrap ((i : Int) + 1 + (bt s i : Nat)) = (i : Int) + 1 + (bt s i : Nat) := IntWalk.i64_in _ (by omega)
        have z1 : (0 : Int) ≤ (i : Int) + 1 := by omega
        have z2 : (i : Int) + 1 ≤ (i : Int) + 1 + (bt s i : Nat) := by omega
        have z3 : (i : Int) + 1 + (bt s i : Nat) ≤ s.size := by omega
        have z4 : ((i : Int) + 1).toNat = i + 1 := by omega
        have z5 : ((i : Int) + 1 + (bt s i : Nat)).toNat = i + 1 + bt s i := by omega
        have HT := Lib.hid t1
        have HN : Hid ((idN s i : Int) = (i : Int) + 1 + (bt s i : Nat)) := Lib.hid (by rw [t2]; omega)
        have HE := Lib.hid he
        clear h1 h2 h3 he t1 t2
        (go_enter Try.func27, Try.ntmps27; go_wp2_with fail)
        go_ret3
        exact ⟨ret_sii HT.out.symm HE.out.symm HN.out.symm, rfl⟩
theorem results_cell2 {P : Program} {fn : Func} {p q : Tmp} {ty : TypeId} (h : fn.results = #[.cell p ty, .tmp q]) (tmps : Array Value) (w : World) (g : Nat) (t : TypeId) (cs : Array Value) {fs : Array Field} {a : Value}
    (hp : tmps.getD p undef = .pointer (some ⟨g, 0, none⟩)) (hg : HasB w g t cs) (hu : P.underlying ty = some (.struct fs)) (hi : (P.info? ty).map (·.size) = some cs.size) (ha : tmps.getD q undef = a) :
    (results fn tmps).run P w = .ok (.tuple #[.agg cs, a]) w := by
  have hp' : tmps[p]?.getD undef = .pointer (some ⟨g, 0, none⟩) := by simpa using hp
  have ha' : tmps[q]?.getD undef = a := by simpa using ha
  simp [results, h, hp', ha', asAddr, run_loadVar_row w g t ty cs (0, 0) (.struct fs) hg hu rfl hi]
theorem get_empty (s : ByteArray) (hs : s.size ≤ 1099511627776) (w : World) (h : s.size = 0) : Calls Try.prog 11 #[.string s] w fun e w' => e = .returned (.tuple #[.agg #[.bool (headG9 s).lg, .int .i64 (headG9 s).bi, .int .u32 (headG9 s).ve, .string (headG9 s).dc, .string (headG9 s).sc, .string (headG9 s).re], .int .i64 (errG9 s)]) ∧ Below w.heap.size w w' := by
  have he : errG9 s = 2 := by unfold errG9; rw [if_pos h]
  have hh := headG9_no (s := s) (by omega)
  rw [hh, he]
  show Calls _ _ _ _ fun e' w' => e' = .returned (.tuple #[.agg #[.bool false, .int .i64 0, .int .u32 0, .string ⟨#[]⟩, .string ⟨#[]⟩, .string ⟨#[]⟩], .int .i64 2]) ∧ Below w.heap.size w w'
  clear he hh
  obtain rfl := size_0 h
  have HW := HasB.new w 24 #[.bool false, .int .i64 0, .int .u32 0, .string ⟨#[]⟩, .string ⟨#[]⟩, .string ⟨#[]⟩]
  have HL : Below w.heap.size w (w.alloc (.cells #[.bool false, .int .i64 0, .int .u32 0, .string ⟨#[]⟩, .string ⟨#[]⟩, .string ⟨#[]⟩] 24)) := (Below.refl _ _).alloc (Nat.le_refl _) _
  (go_enter Try.func11, Try.ntmps11; go_wp2_with fail)
  (try simp only [Exit.inBlock, Exit.then]); refine bodyPost_ret (v := .tuple #[.agg #[.bool false, .int .i64 0, .int .u32 0, .string ⟨#[]⟩, .string ⟨#[]⟩, .string ⟨#[]⟩], .int .i64 2]) (results_cell2 Try.results11 _ _ w.heap.size _ _ rfl HW Try.underlying24 infoR9 rfl) rfl ⟨rfl, HL⟩
theorem get_form (s : ByteArray) (hs : s.size ≤ 1099511627776) (w : World) (h0 : s.size ≠ 0) (h : bt s 0 / 64 % 2 = 0) : Calls Try.prog 11 #[.string s] w fun e w' => e = .returned (.tuple #[.agg #[.bool (headG9 s).lg, .int .i64 (headG9 s).bi, .int .u32 (headG9 s).ve, .string (headG9 s).dc, .string (headG9 s).sc, .string (headG9 s).re], .int .i64 (errG9 s)]) ∧ Below w.heap.size w w' := by
  have he : errG9 s = 3 := by unfold errG9; rw [if_neg h0, if_pos h]
  have hh := headG9_no (s := s) (by omega)
  rw [hh, he]
  show Calls _ _ _ _ fun e' w' => e' = .returned (.tuple #[.agg #[.bool false, .int .i64 0, .int .u32 0, .string ⟨#[]⟩, .string ⟨#[]⟩, .string ⟨#[]⟩], .int .i64 3]) ∧ Below w.heap.size w w'
  clear he hh
  have hlt : 0 < s.size := by omega
  have q0 := byte_at s 0 hlt
  have b0 := bt_lt s 0
  have j0 : (0 : Int) < s.size := by omega
  have ne : (s.toList == []) = false := by
    rw [ByteArray.toList_eq]
    cases hl : s.data.toList with
    | nil => exact absurd (show s.size = 0 by rw [size_list, hl]; rfl) h0
    | cons x l => rfl
  have v1 : (((bt s 0 : Nat) : Int) / 64 % 2 == 0) = true := by simp; omega
  have HW := HasB.new w 24 #[.bool false, .int .i64 0, .int .u32 0, .string ⟨#[]⟩, .string ⟨#[]⟩, .string ⟨#[]⟩]
  have HL : Below w.heap.size w (w.alloc (.cells #[.bool false, .int .i64 0, .int .u32 0, .string ⟨#[]⟩, .string ⟨#[]⟩, .string ⟨#[]⟩] 24)) := (Below.refl _ _).alloc (Nat.le_refl _) _
  clear h h0
  (go_enter Try.func11, Try.ntmps11; go_wp2_with fail)
  (try simp only [Exit.inBlock, Exit.then]); refine bodyPost_ret (v := .tuple #[.agg #[.bool false, .int .i64 0, .int .u32 0, .string ⟨#[]⟩, .string ⟨#[]⟩, .string ⟨#[]⟩], .int .i64 3]) (results_cell2 Try.results11 _ _ w.heap.size _ _ rfl HW Try.underlying24 infoR9 rfl) rfl ⟨rfl, HL⟩
/-- What holds behind the literal: the result, the head that is read. -/
def St9 (w0 W : World) (cs : Array Value) : Prop := HasB W w0.heap.size 24 #[.bool false, .int .i64 0, .int .u32 0, .string ⟨#[]⟩, .string ⟨#[]⟩, .string ⟨#[]⟩] ∧ HasB W (w0.heap.size + 1) 24 cs ∧ Below w0.heap.size w0 W
theorem St9.put {w0 W : World} {cs : Array Value} (h : St9 w0 W cs) (i : Nat) (v : Value) : St9 w0 (W.setCell ⟨w0.heap.size + 1, i, none⟩ v) (cs.setIfInBounds i v) :=
  ⟨HasB.far h.1 ⟨w0.heap.size + 1, i, none⟩ (by show _ ≠ w0.heap.size + 1; omega) v, HasB.put h.2.1 i v, Below.setCell (p := ⟨w0.heap.size + 1, i, none⟩) h.2.2 (by simp) v⟩
set_option maxRecDepth 100000 in
set_option maxHeartbeats 2000000 in
theorem get_scut (s : ByteArray) (hs : s.size ≤ 1099511627776) (w : World) (h0 : s.size ≠ 0) (h : bt s 0 / 64 % 2 = 1) (h1 : bt s 0 < 128) (h2 : s.size < 9) : Calls Try.prog 11 #[.string s] w fun e w' => e = .returned (.tuple #[.agg #[.bool (headG9 s).lg, .int .i64 (headG9 s).bi, .int .u32 (headG9 s).ve, .string (headG9 s).dc, .string (headG9 s).sc, .string (headG9 s).re], .int .i64 (errG9 s)]) ∧ Below w.heap.size w w' := by
  have he : errG9 s = 2 := by unfold errG9; rw [if_neg h0, if_neg (by omega), if_pos h1, if_pos h2]
  have hh := headG9_no (s := s) (by omega)
  rw [hh, he]
  show Calls _ _ _ _ fun e' w' => e' = .returned (.tuple #[.agg #[.bool false, .int .i64 0, .int .u32 0, .string ⟨#[]⟩, .string ⟨#[]⟩, .string ⟨#[]⟩], .int .i64 2]) ∧ Below w.heap.size w w'
  clear he hh
  have hlt : 0 < s.size := by omega
  have q0 := byte_at s 0 hlt
  have b0 := bt_lt s 0
  have j0 : (0 : Int) < s.size := by omega
  have ne : (s.toList == []) = false := by
    rw [ByteArray.toList_eq]
    cases hl : s.data.toList with
    | nil => exact absurd (show s.size = 0 by rw [size_list, hl]; rfl) h0
    | cons x l => rfl
  have hdc : decide ((128 : Int) ≤ ((bt s 0 : Nat) : Int)) = false := decide_eq_false (by omega)
  have htm : ((bt s 0 : Nat) : Int).tmod 64 = ((bt s 0 : Nat) : Int) % 64 := Int.tmod_eq_emod_of_nonneg (by omega)
  have v1 : (((bt s 0 : Nat) : Int) / 64 % 2 == 0) = false := by simp; omega
  have v2 : ¬ (128 : Int) ≤ (bt s 0 : Nat) := by omega
  have x1 : IntKind.i64.wrap (((bt s 0 : Nat) : Int) % 64) = ((bt s 0 : Nat) : Int) % 64 := IntWalk.i64_in _ (by omega)
  have HW := HasB.new w 24 #[.bool false, .int .i64 0, .int .u32 0, .string ⟨#[]⟩, .string ⟨#[]⟩, .string ⟨#[]⟩]
  have HL : Below w.heap.size w (w.alloc (.cells #[.bool false, .int .i64 0, .int .u32 0, .string ⟨#[]⟩, .string ⟨#[]⟩, .string ⟨#[]⟩] 24)) := (Below.refl _ _).alloc (Nat.le_refl _) _
  have v3 : (s.size : Int) < 9 := by omega
  clear h h0 h1 h2
  (go_enter Try.func11, Try.ntmps11; go_wp2_with fail)
  refine wp_region_noPanic ?_
  refine wp_region_held_drew (S := (fun _ => True)) (by kernel_rfl) trivial (fun hHeld => ?_)
  refine wpAnyH_take (i := 0) (oi := _) (v := ?v0a) rfl (by kernel_rfl) (by kernel_rfl) (by kernel_rfl) (fun _ _ _ h => h) (Or.inl ⟨by rfl, ?y0a⟩) (by assumption) ?r0a
  case y0a => intro w0 hSw; (try dsimp only at hSw); go_simp; try with_reducible rfl
  try simp only [Act.put, List.setIfInBounds_toArray, List.set_cons_zero, List.set_cons_succ, List.getElem_toArray, List.getElem_cons_zero]
  refine wpAnyH_take (i := 1) (oi := _) (v := ?v1a) rfl (by kernel_rfl) (by kernel_rfl) (by kernel_rfl) (fun _ _ _ h => h) (Or.inl ⟨by rfl, ?y1a⟩) (by assumption) ?r1a
  case y1a => intro w0 hSw; (try dsimp only at hSw); go_simp; try with_reducible rfl
  try simp only [Act.put, List.setIfInBounds_toArray, List.set_cons_zero, List.set_cons_succ, List.getElem_toArray, List.getElem_cons_succ, List.getElem_cons_zero]
  refine wpAnyH_take (i := 2) (oi := _) (v := ?v2a) rfl (by kernel_rfl) (by kernel_rfl) (by kernel_rfl) (fun _ _ _ h => h) (Or.inl ⟨by rfl, ?y2a⟩) (by assumption) ?r2a
  case y2a => intro w0 hSw; (try dsimp only at hSw); go_simp; try with_reducible rfl
  try simp only [Act.put, List.setIfInBounds_toArray, List.set_cons_zero, List.set_cons_succ, List.getElem_toArray, List.getElem_cons_succ, List.getElem_cons_zero]
  refine wpAnyH_take (i := 3) (oi := _) (v := ?v3a) rfl (by kernel_rfl) (by kernel_rfl) (by kernel_rfl) (fun _ _ _ h => h) (Or.inl ⟨by rfl, ?y3a⟩) (by assumption) ?r3a
  case y3a => intro w0 hSw; (try dsimp only at hSw); go_simp; try with_reducible rfl
  try simp only [Act.put, List.setIfInBounds_toArray, List.set_cons_zero, List.set_cons_succ, List.getElem_toArray, List.getElem_cons_succ, List.getElem_cons_zero]
  refine wpAnyH_take (i := 4) (oi := _) (v := ?v4a) rfl (by kernel_rfl) (by kernel_rfl) (by kernel_rfl) (fun _ _ _ h => h) (Or.inl ⟨by rfl, ?y4a⟩) (by assumption) ?r4a
  case y4a => intro w0 hSw; (try dsimp only at hSw); go_simp; try with_reducible rfl
  try simp only [Act.put, List.setIfInBounds_toArray, List.set_cons_zero, List.set_cons_succ, List.getElem_toArray, List.getElem_cons_succ, List.getElem_cons_zero]
  refine wpAnyH_take (i := 5) (oi := _) (v := ?v5a) rfl (by kernel_rfl) (by kernel_rfl) (by kernel_rfl) (fun _ _ _ h => h) (Or.inl ⟨by rfl, ?y5a⟩) (by assumption) ?r5a
  case y5a => intro w0 hSw; (try dsimp only at hSw); go_simp; try with_reducible rfl
  try simp only [Act.put, List.setIfInBounds_toArray, List.set_cons_zero, List.set_cons_succ, List.getElem_toArray, List.getElem_cons_succ, List.getElem_cons_zero]
  refine wpAnyH_take (i := 6) (oi := _) (v := ?v6a) rfl (by kernel_rfl) (by kernel_rfl) (by kernel_rfl) (fun _ _ _ h => h) (Or.inl ⟨by rfl, ?y6a⟩) (by assumption) ?r6a
  case y6a => intro w0 hSw; (try dsimp only at hSw); go_simp; try with_reducible rfl
  try simp only [Act.put, List.setIfInBounds_toArray, List.set_cons_zero, List.set_cons_succ, List.getElem_toArray, List.getElem_cons_succ, List.getElem_cons_zero]
  refine wpAnyH_take (i := 7) (oi := _) (v := ?v7a) rfl (by kernel_rfl) (by kernel_rfl) (by kernel_rfl) (fun _ _ _ h => h) (Or.inl ⟨by rfl, ?y7a⟩) (by assumption) ?r7a
  case y7a => intro w0 hSw; (try dsimp only at hSw); go_simp; try with_reducible rfl
  try simp only [Act.put, List.setIfInBounds_toArray, List.set_cons_zero, List.set_cons_succ, List.getElem_toArray, List.getElem_cons_succ, List.getElem_cons_zero]
  refine wpAnyH_ready (rs := [8]) (by kernel_rfl) (by simp) ?_
  refine AllReadyH.cons (o := _) rfl (fun K hK => ?_) AllReadyH.nil
  go_simp
  refine hK.out _ _ trivial (fun hHeld => ?_)
  clear hK K
  try simp only [Act.put, List.setIfInBounds_toArray, List.set_cons_zero, List.set_cons_succ, List.getElem_toArray, List.getElem_cons_succ, List.getElem_cons_zero]
  refine wpAnyH_ready (rs := [9]) (by kernel_rfl) (by simp) ?_
  refine AllReadyH.cons (o := _) rfl (fun K hK => ?_) AllReadyH.nil
  go_simp
  refine hK.out _ _ trivial (fun hHeld => ?_)
  clear hK K
  try simp only [Act.put, List.setIfInBounds_toArray, List.set_cons_zero, List.set_cons_succ, List.getElem_toArray, List.getElem_cons_succ, List.getElem_cons_zero]
  refine wpAnyH_done (by kernel_rfl) ?_ _
  refine NoPanic.normal ?_
  have HX : St9 w (World.drew ((w.alloc (.cells #[.bool false, .int .i64 0, .int .u32 0, .string ⟨#[]⟩, .string ⟨#[]⟩, .string ⟨#[]⟩] 24)).alloc (.cells #[.bool false, .int .i64 (((bt s 0 : Nat) : Int) % 64), .int .u32 (0), .string (⟨#[]⟩), .string (⟨#[]⟩), .string (⟨#[]⟩)] 24))) #[.bool false, .int .i64 (((bt s 0 : Nat) : Int) % 64), .int .u32 (0), .string (⟨#[]⟩), .string (⟨#[]⟩), .string (⟨#[]⟩)] := by
    refine ⟨HasB.drew (HW.alloc _), ?_, (HL.alloc (by simp) _).drew⟩
    have := HasB.new (w.alloc (.cells #[.bool false, .int .i64 0, .int .u32 0, .string ⟨#[]⟩, .string ⟨#[]⟩, .string ⟨#[]⟩] 24)) 24 #[.bool false, .int .i64 (((bt s 0 : Nat) : Int) % 64), .int .u32 (0), .string (⟨#[]⟩), .string (⟨#[]⟩), .string (⟨#[]⟩)]
    rw [World.size_alloc] at this
    exact HasB.drew this
  clear HW HL
  revert HX
  generalize World.drew (World.alloc (w.alloc _) _) = X
  intro HX
  have c0 := HasB.cell HX.2.1 0 (.bool false) rfl
  (have hro := HasB.rowOk HX.1 (n := 6) rfl; go_wp2_with fail; (try simp only [Exit.inBlock, Exit.then]); refine bodyPost_ret (v := .tuple #[.agg #[.bool false, .int .i64 0, .int .u32 0, .string ⟨#[]⟩, .string ⟨#[]⟩, .string ⟨#[]⟩], .int .i64 2]) (results_cell2 Try.results11 _ _ w.heap.size _ _ rfl (HasB.setRow HX.1 #[.bool false, .int .i64 0, .int .u32 0, .string ⟨#[]⟩, .string ⟨#[]⟩, .string ⟨#[]⟩]) Try.underlying24 infoR9 rfl) rfl ⟨rfl, (below_setRow HX.2.2 (Nat.le_refl _) #[.bool false, .int .i64 0, .int .u32 0, .string ⟨#[]⟩, .string ⟨#[]⟩, .string ⟨#[]⟩])⟩)
set_option maxRecDepth 100000 in
set_option maxHeartbeats 2000000 in
theorem get_short (s : ByteArray) (hs : s.size ≤ 1099511627776) (w : World) (he : errG9 s = 0) (h1 : bt s 0 < 128) : Calls Try.prog 11 #[.string s] w fun e w' => e = .returned (.tuple #[.agg #[.bool (headG9 s).lg, .int .i64 (headG9 s).bi, .int .u32 (headG9 s).ve, .string (headG9 s).dc, .string (headG9 s).sc, .string (headG9 s).re], .int .i64 (errG9 s)]) ∧ Below w.heap.size w w' := by
  obtain ⟨h, h2, hh⟩ := errG9_short he h1
  have h0 : s.size ≠ 0 := by omega
  rw [hh, he, show ((bt s 0 % 64 : Nat) : Int) = ((bt s 0 : Nat) : Int) % 64 by omega]
  show Calls _ _ _ _ fun e' w' => e' = .returned (.tuple #[.agg #[.bool false, .int .i64 (((bt s 0 : Nat) : Int) % 64), .int .u32 (0), .string (s.extract 1 9), .string (⟨#[]⟩), .string (s.extract 9 s.size)], .int .i64 0]) ∧ Below w.heap.size w w'
  have hlt : 0 < s.size := by omega
  have q0 := byte_at s 0 hlt
  have b0 := bt_lt s 0
  have j0 : (0 : Int) < s.size := by omega
  have ne : (s.toList == []) = false := by
    rw [ByteArray.toList_eq]
    cases hl : s.data.toList with
    | nil => exact absurd (show s.size = 0 by rw [size_list, hl]; rfl) h0
    | cons x l => rfl
  have hdc : decide ((128 : Int) ≤ ((bt s 0 : Nat) : Int)) = false := decide_eq_false (by omega)
  have htm : ((bt s 0 : Nat) : Int).tmod 64 = ((bt s 0 : Nat) : Int) % 64 := Int.tmod_eq_emod_of_nonneg (by omega)
  have v1 : (((bt s 0 : Nat) : Int) / 64 % 2 == 0) = false := by simp; omega
  have v2 : ¬ (128 : Int) ≤ (bt s 0 : Nat) := by omega
  have x1 : IntKind.i64.wrap (((bt s 0 : Nat) : Int) % 64) = ((bt s 0 : Nat) : Int) % 64 := IntWalk.i64_in _ (by omega)
  have HW := HasB.new w 24 #[.bool false, .int .i64 0, .int .u32 0, .string ⟨#[]⟩, .string ⟨#[]⟩, .string ⟨#[]⟩]
  have HL : Below w.heap.size w (w.alloc (.cells #[.bool false, .int .i64 0, .int .u32 0, .string ⟨#[]⟩, .string ⟨#[]⟩, .string ⟨#[]⟩] 24)) := (Below.refl _ _).alloc (Nat.le_refl _) _
  have v3 : ¬ (s.size : Int) < 9 := by omega
  have v4 : (9 : Int) ≤ s.size := by omega
  clear h h0 h1 h2 he hh
  (go_enter Try.func11, Try.ntmps11; go_wp2_with fail)
  refine wp_region_noPanic ?_
  refine wp_region_held_drew (S := (fun _ => True)) (by kernel_rfl) trivial (fun hHeld => ?_)
  refine wpAnyH_take (i := 0) (oi := _) (v := ?v0a) rfl (by kernel_rfl) (by kernel_rfl) (by kernel_rfl) (fun _ _ _ h => h) (Or.inl ⟨by rfl, ?y0a⟩) (by assumption) ?r0a
  case y0a => intro w0 hSw; (try dsimp only at hSw); go_simp; try with_reducible rfl
  try simp only [Act.put, List.setIfInBounds_toArray, List.set_cons_zero, List.set_cons_succ, List.getElem_toArray, List.getElem_cons_zero]
  refine wpAnyH_take (i := 1) (oi := _) (v := ?v1a) rfl (by kernel_rfl) (by kernel_rfl) (by kernel_rfl) (fun _ _ _ h => h) (Or.inl ⟨by rfl, ?y1a⟩) (by assumption) ?r1a
  case y1a => intro w0 hSw; (try dsimp only at hSw); go_simp; try with_reducible rfl
  try simp only [Act.put, List.setIfInBounds_toArray, List.set_cons_zero, List.set_cons_succ, List.getElem_toArray, List.getElem_cons_succ, List.getElem_cons_zero]
  refine wpAnyH_take (i := 2) (oi := _) (v := ?v2a) rfl (by kernel_rfl) (by kernel_rfl) (by kernel_rfl) (fun _ _ _ h => h) (Or.inl ⟨by rfl, ?y2a⟩) (by assumption) ?r2a
  case y2a => intro w0 hSw; (try dsimp only at hSw); go_simp; try with_reducible rfl
  try simp only [Act.put, List.setIfInBounds_toArray, List.set_cons_zero, List.set_cons_succ, List.getElem_toArray, List.getElem_cons_succ, List.getElem_cons_zero]
  refine wpAnyH_take (i := 3) (oi := _) (v := ?v3a) rfl (by kernel_rfl) (by kernel_rfl) (by kernel_rfl) (fun _ _ _ h => h) (Or.inl ⟨by rfl, ?y3a⟩) (by assumption) ?r3a
  case y3a => intro w0 hSw; (try dsimp only at hSw); go_simp; try with_reducible rfl
  try simp only [Act.put, List.setIfInBounds_toArray, List.set_cons_zero, List.set_cons_succ, List.getElem_toArray, List.getElem_cons_succ, List.getElem_cons_zero]
  refine wpAnyH_take (i := 4) (oi := _) (v := ?v4a) rfl (by kernel_rfl) (by kernel_rfl) (by kernel_rfl) (fun _ _ _ h => h) (Or.inl ⟨by rfl, ?y4a⟩) (by assumption) ?r4a
  case y4a => intro w0 hSw; (try dsimp only at hSw); go_simp; try with_reducible rfl
  try simp only [Act.put, List.setIfInBounds_toArray, List.set_cons_zero, List.set_cons_succ, List.getElem_toArray, List.getElem_cons_succ, List.getElem_cons_zero]
  refine wpAnyH_take (i := 5) (oi := _) (v := ?v5a) rfl (by kernel_rfl) (by kernel_rfl) (by kernel_rfl) (fun _ _ _ h => h) (Or.inl ⟨by rfl, ?y5a⟩) (by assumption) ?r5a
  case y5a => intro w0 hSw; (try dsimp only at hSw); go_simp; try with_reducible rfl
  try simp only [Act.put, List.setIfInBounds_toArray, List.set_cons_zero, List.set_cons_succ, List.getElem_toArray, List.getElem_cons_succ, List.getElem_cons_zero]
  refine wpAnyH_take (i := 6) (oi := _) (v := ?v6a) rfl (by kernel_rfl) (by kernel_rfl) (by kernel_rfl) (fun _ _ _ h => h) (Or.inl ⟨by rfl, ?y6a⟩) (by assumption) ?r6a
  case y6a => intro w0 hSw; (try dsimp only at hSw); go_simp; try with_reducible rfl
  try simp only [Act.put, List.setIfInBounds_toArray, List.set_cons_zero, List.set_cons_succ, List.getElem_toArray, List.getElem_cons_succ, List.getElem_cons_zero]
  refine wpAnyH_take (i := 7) (oi := _) (v := ?v7a) rfl (by kernel_rfl) (by kernel_rfl) (by kernel_rfl) (fun _ _ _ h => h) (Or.inl ⟨by rfl, ?y7a⟩) (by assumption) ?r7a
  case y7a => intro w0 hSw; (try dsimp only at hSw); go_simp; try with_reducible rfl
  try simp only [Act.put, List.setIfInBounds_toArray, List.set_cons_zero, List.set_cons_succ, List.getElem_toArray, List.getElem_cons_succ, List.getElem_cons_zero]
  refine wpAnyH_ready (rs := [8]) (by kernel_rfl) (by simp) ?_
  refine AllReadyH.cons (o := _) rfl (fun K hK => ?_) AllReadyH.nil
  go_simp
  refine hK.out _ _ trivial (fun hHeld => ?_)
  clear hK K
  try simp only [Act.put, List.setIfInBounds_toArray, List.set_cons_zero, List.set_cons_succ, List.getElem_toArray, List.getElem_cons_succ, List.getElem_cons_zero]
  refine wpAnyH_ready (rs := [9]) (by kernel_rfl) (by simp) ?_
  refine AllReadyH.cons (o := _) rfl (fun K hK => ?_) AllReadyH.nil
  go_simp
  refine hK.out _ _ trivial (fun hHeld => ?_)
  clear hK K
  try simp only [Act.put, List.setIfInBounds_toArray, List.set_cons_zero, List.set_cons_succ, List.getElem_toArray, List.getElem_cons_succ, List.getElem_cons_zero]
  refine wpAnyH_done (by kernel_rfl) ?_ _
  refine NoPanic.normal ?_
  have HX : St9 w (World.drew ((w.alloc (.cells #[.bool false, .int .i64 0, .int .u32 0, .string ⟨#[]⟩, .string ⟨#[]⟩, .string ⟨#[]⟩] 24)).alloc (.cells #[.bool false, .int .i64 (((bt s 0 : Nat) : Int) % 64), .int .u32 (0), .string (⟨#[]⟩), .string (⟨#[]⟩), .string (⟨#[]⟩)] 24))) #[.bool false, .int .i64 (((bt s 0 : Nat) : Int) % 64), .int .u32 (0), .string (⟨#[]⟩), .string (⟨#[]⟩), .string (⟨#[]⟩)] := by
    refine ⟨HasB.drew (HW.alloc _), ?_, (HL.alloc (by simp) _).drew⟩
    have := HasB.new (w.alloc (.cells #[.bool false, .int .i64 0, .int .u32 0, .string ⟨#[]⟩, .string ⟨#[]⟩, .string ⟨#[]⟩] 24)) 24 #[.bool false, .int .i64 (((bt s 0 : Nat) : Int) % 64), .int .u32 (0), .string (⟨#[]⟩), .string (⟨#[]⟩), .string (⟨#[]⟩)]
    rw [World.size_alloc] at this
    exact HasB.drew this
  clear HW HL
  revert HX
  generalize World.drew (World.alloc (w.alloc _) _) = X
  intro HX
  have c0 := HasB.cell HX.2.1 0 (.bool false) rfl
  have c3 := HasB.cell HX.2.1 3 (.string ⟨#[]⟩) rfl
  have f3 := HasB.free HX.2.1 3
  have c5 := HasB.cell HX.2.1 5 (.string ⟨#[]⟩) rfl
  have f5 := HasB.free HX.2.1 5
  have HY := (HX.put 3 (.string (s.extract 1 9))).put 5 (.string (s.extract 9 s.size))
  have HX2 : St9 w _ #[.bool false, .int .i64 (((bt s 0 : Nat) : Int) % 64), .int .u32 (0), .string (s.extract 1 9), .string (⟨#[]⟩), .string (s.extract 9 s.size)] := HY
  have hro := HasB.rowOk HX2.1 (n := 6) rfl
  have hr2 := HasB.rowOk HX2.2.1 (n := 6) rfl
  have hrw := HasB.rowOf HX2.2.1
  go_wp2_with fail
  (try simp only [Exit.inBlock, Exit.then]); refine bodyPost_ret (v := .tuple #[.agg #[.bool false, .int .i64 (((bt s 0 : Nat) : Int) % 64), .int .u32 (0), .string (s.extract 1 9), .string (⟨#[]⟩), .string (s.extract 9 s.size)], .int .i64 0]) (results_cell2 Try.results11 _ _ w.heap.size _ _ rfl (HasB.setRow HX2.1 #[.bool false, .int .i64 (((bt s 0 : Nat) : Int) % 64), .int .u32 (0), .string (s.extract 1 9), .string (⟨#[]⟩), .string (s.extract 9 s.size)]) Try.underlying24 infoR9 rfl) rfl ⟨rfl, below_setRow HX2.2.2 (Nat.le_refl _) #[.bool false, .int .i64 (((bt s 0 : Nat) : Int) % 64), .int .u32 (0), .string (s.extract 1 9), .string (⟨#[]⟩), .string (s.extract 9 s.size)]⟩
set_option maxRecDepth 100000 in
set_option maxHeartbeats 2000000 in
theorem get_lcut (s : ByteArray) (hs : s.size ≤ 1099511627776) (w : World) (h0 : s.size ≠ 0) (h : bt s 0 / 64 % 2 = 1) (h1 : ¬ bt s 0 < 128) (h2 : s.size < 5) : Calls Try.prog 11 #[.string s] w fun e w' => e = .returned (.tuple #[.agg #[.bool (headG9 s).lg, .int .i64 (headG9 s).bi, .int .u32 (headG9 s).ve, .string (headG9 s).dc, .string (headG9 s).sc, .string (headG9 s).re], .int .i64 (errG9 s)]) ∧ Below w.heap.size w w' := by
  have he : errG9 s = 2 := by unfold errG9; rw [if_neg h0, if_neg (by omega), if_neg h1, if_pos h2]
  have hh := headG9_no (s := s) (by omega)
  rw [hh, he]
  show Calls _ _ _ _ fun e' w' => e' = .returned (.tuple #[.agg #[.bool false, .int .i64 0, .int .u32 0, .string ⟨#[]⟩, .string ⟨#[]⟩, .string ⟨#[]⟩], .int .i64 2]) ∧ Below w.heap.size w w'
  clear he hh
  have hlt : 0 < s.size := by omega
  have q0 := byte_at s 0 hlt
  have b0 := bt_lt s 0
  have j0 : (0 : Int) < s.size := by omega
  have ne : (s.toList == []) = false := by
    rw [ByteArray.toList_eq]
    cases hl : s.data.toList with
    | nil => exact absurd (show s.size = 0 by rw [size_list, hl]; rfl) h0
    | cons x l => rfl
  have hdc : decide ((128 : Int) ≤ ((bt s 0 : Nat) : Int)) = true := decide_eq_true (by omega)
  have htm : ((bt s 0 : Nat) : Int).tmod 64 = ((bt s 0 : Nat) : Int) % 64 := Int.tmod_eq_emod_of_nonneg (by omega)
  have v1 : (((bt s 0 : Nat) : Int) / 64 % 2 == 0) = false := by simp; omega
  have v2 : (128 : Int) ≤ (bt s 0 : Nat) := by omega
  have x1 : IntKind.i64.wrap (((bt s 0 : Nat) : Int) % 64) = ((bt s 0 : Nat) : Int) % 64 := IntWalk.i64_in _ (by omega)
  have HW := HasB.new w 24 #[.bool false, .int .i64 0, .int .u32 0, .string ⟨#[]⟩, .string ⟨#[]⟩, .string ⟨#[]⟩]
  have HL : Below w.heap.size w (w.alloc (.cells #[.bool false, .int .i64 0, .int .u32 0, .string ⟨#[]⟩, .string ⟨#[]⟩, .string ⟨#[]⟩] 24)) := (Below.refl _ _).alloc (Nat.le_refl _) _
  have v3 : (s.size : Int) < 5 := by omega
  clear h h0 h1 h2
  (go_enter Try.func11, Try.ntmps11; go_wp2_with fail)
  refine wp_region_noPanic ?_
  refine wp_region_held_drew (S := (fun _ => True)) (by kernel_rfl) trivial (fun hHeld => ?_)
  refine wpAnyH_take (i := 0) (oi := _) (v := ?v0a) rfl (by kernel_rfl) (by kernel_rfl) (by kernel_rfl) (fun _ _ _ h => h) (Or.inl ⟨by rfl, ?y0a⟩) (by assumption) ?r0a
  case y0a => intro w0 hSw; (try dsimp only at hSw); go_simp; try with_reducible rfl
  try simp only [Act.put, List.setIfInBounds_toArray, List.set_cons_zero, List.set_cons_succ, List.getElem_toArray, List.getElem_cons_zero]
  refine wpAnyH_take (i := 1) (oi := _) (v := ?v1a) rfl (by kernel_rfl) (by kernel_rfl) (by kernel_rfl) (fun _ _ _ h => h) (Or.inl ⟨by rfl, ?y1a⟩) (by assumption) ?r1a
  case y1a => intro w0 hSw; (try dsimp only at hSw); go_simp; try with_reducible rfl
  try simp only [Act.put, List.setIfInBounds_toArray, List.set_cons_zero, List.set_cons_succ, List.getElem_toArray, List.getElem_cons_succ, List.getElem_cons_zero]
  refine wpAnyH_take (i := 2) (oi := _) (v := ?v2a) rfl (by kernel_rfl) (by kernel_rfl) (by kernel_rfl) (fun _ _ _ h => h) (Or.inl ⟨by rfl, ?y2a⟩) (by assumption) ?r2a
  case y2a => intro w0 hSw; (try dsimp only at hSw); go_simp; try with_reducible rfl
  try simp only [Act.put, List.setIfInBounds_toArray, List.set_cons_zero, List.set_cons_succ, List.getElem_toArray, List.getElem_cons_succ, List.getElem_cons_zero]
  refine wpAnyH_take (i := 3) (oi := _) (v := ?v3a) rfl (by kernel_rfl) (by kernel_rfl) (by kernel_rfl) (fun _ _ _ h => h) (Or.inl ⟨by rfl, ?y3a⟩) (by assumption) ?r3a
  case y3a => intro w0 hSw; (try dsimp only at hSw); go_simp; try with_reducible rfl
  try simp only [Act.put, List.setIfInBounds_toArray, List.set_cons_zero, List.set_cons_succ, List.getElem_toArray, List.getElem_cons_succ, List.getElem_cons_zero]
  refine wpAnyH_take (i := 4) (oi := _) (v := ?v4a) rfl (by kernel_rfl) (by kernel_rfl) (by kernel_rfl) (fun _ _ _ h => h) (Or.inl ⟨by rfl, ?y4a⟩) (by assumption) ?r4a
  case y4a => intro w0 hSw; (try dsimp only at hSw); go_simp; try with_reducible rfl
  try simp only [Act.put, List.setIfInBounds_toArray, List.set_cons_zero, List.set_cons_succ, List.getElem_toArray, List.getElem_cons_succ, List.getElem_cons_zero]
  refine wpAnyH_take (i := 5) (oi := _) (v := ?v5a) rfl (by kernel_rfl) (by kernel_rfl) (by kernel_rfl) (fun _ _ _ h => h) (Or.inl ⟨by rfl, ?y5a⟩) (by assumption) ?r5a
  case y5a => intro w0 hSw; (try dsimp only at hSw); go_simp; try with_reducible rfl
  try simp only [Act.put, List.setIfInBounds_toArray, List.set_cons_zero, List.set_cons_succ, List.getElem_toArray, List.getElem_cons_succ, List.getElem_cons_zero]
  refine wpAnyH_take (i := 6) (oi := _) (v := ?v6a) rfl (by kernel_rfl) (by kernel_rfl) (by kernel_rfl) (fun _ _ _ h => h) (Or.inl ⟨by rfl, ?y6a⟩) (by assumption) ?r6a
  case y6a => intro w0 hSw; (try dsimp only at hSw); go_simp; try with_reducible rfl
  try simp only [Act.put, List.setIfInBounds_toArray, List.set_cons_zero, List.set_cons_succ, List.getElem_toArray, List.getElem_cons_succ, List.getElem_cons_zero]
  refine wpAnyH_take (i := 7) (oi := _) (v := ?v7a) rfl (by kernel_rfl) (by kernel_rfl) (by kernel_rfl) (fun _ _ _ h => h) (Or.inl ⟨by rfl, ?y7a⟩) (by assumption) ?r7a
  case y7a => intro w0 hSw; (try dsimp only at hSw); go_simp; try with_reducible rfl
  try simp only [Act.put, List.setIfInBounds_toArray, List.set_cons_zero, List.set_cons_succ, List.getElem_toArray, List.getElem_cons_succ, List.getElem_cons_zero]
  refine wpAnyH_ready (rs := [8]) (by kernel_rfl) (by simp) ?_
  refine AllReadyH.cons (o := _) rfl (fun K hK => ?_) AllReadyH.nil
  go_simp
  refine hK.out _ _ trivial (fun hHeld => ?_)
  clear hK K
  try simp only [Act.put, List.setIfInBounds_toArray, List.set_cons_zero, List.set_cons_succ, List.getElem_toArray, List.getElem_cons_succ, List.getElem_cons_zero]
  refine wpAnyH_ready (rs := [9]) (by kernel_rfl) (by simp) ?_
  refine AllReadyH.cons (o := _) rfl (fun K hK => ?_) AllReadyH.nil
  go_simp
  refine hK.out _ _ trivial (fun hHeld => ?_)
  clear hK K
  try simp only [Act.put, List.setIfInBounds_toArray, List.set_cons_zero, List.set_cons_succ, List.getElem_toArray, List.getElem_cons_succ, List.getElem_cons_zero]
  refine wpAnyH_done (by kernel_rfl) ?_ _
  refine NoPanic.normal ?_
  have HX : St9 w (World.drew ((w.alloc (.cells #[.bool false, .int .i64 0, .int .u32 0, .string ⟨#[]⟩, .string ⟨#[]⟩, .string ⟨#[]⟩] 24)).alloc (.cells #[.bool true, .int .i64 (((bt s 0 : Nat) : Int) % 64), .int .u32 (0), .string (⟨#[]⟩), .string (⟨#[]⟩), .string (⟨#[]⟩)] 24))) #[.bool true, .int .i64 (((bt s 0 : Nat) : Int) % 64), .int .u32 (0), .string (⟨#[]⟩), .string (⟨#[]⟩), .string (⟨#[]⟩)] := by
    refine ⟨HasB.drew (HW.alloc _), ?_, (HL.alloc (by simp) _).drew⟩
    have := HasB.new (w.alloc (.cells #[.bool false, .int .i64 0, .int .u32 0, .string ⟨#[]⟩, .string ⟨#[]⟩, .string ⟨#[]⟩] 24)) 24 #[.bool true, .int .i64 (((bt s 0 : Nat) : Int) % 64), .int .u32 (0), .string (⟨#[]⟩), .string (⟨#[]⟩), .string (⟨#[]⟩)]
    rw [World.size_alloc] at this
    exact HasB.drew this
  clear HW HL
  revert HX
  generalize World.drew (World.alloc (w.alloc _) _) = X
  intro HX
  have c0 := HasB.cell HX.2.1 0 (.bool true) rfl
  (have hro := HasB.rowOk HX.1 (n := 6) rfl; go_wp2_with fail; (try simp only [Exit.inBlock, Exit.then]); refine bodyPost_ret (v := .tuple #[.agg #[.bool false, .int .i64 0, .int .u32 0, .string ⟨#[]⟩, .string ⟨#[]⟩, .string ⟨#[]⟩], .int .i64 2]) (results_cell2 Try.results11 _ _ w.heap.size _ _ rfl (HasB.setRow HX.1 #[.bool false, .int .i64 0, .int .u32 0, .string ⟨#[]⟩, .string ⟨#[]⟩, .string ⟨#[]⟩]) Try.underlying24 infoR9 rfl) rfl ⟨rfl, (below_setRow HX.2.2 (Nat.le_refl _) #[.bool false, .int .i64 0, .int .u32 0, .string ⟨#[]⟩, .string ⟨#[]⟩, .string ⟨#[]⟩])⟩)
theorem wrap32' {x : Nat} (h : x < 4294967296) : IntKind.u32.wrap (x : Int) = x := by rw [IntKind.wrap_u32]; omega
set_option maxRecDepth 100000 in
set_option maxHeartbeats 2000000 in
theorem get_id1 (s : ByteArray) (hs : s.size ≤ 1099511627776) (w : World) (h0 : s.size ≠ 0) (h : bt s 0 / 64 % 2 = 1) (h1 : ¬ bt s 0 < 128) (h2 : 5 ≤ s.size) (h3 : idE s 5 ≠ 0) : Calls Try.prog 11 #[.string s] w fun e w' => e = .returned (.tuple #[.agg #[.bool (headG9 s).lg, .int .i64 (headG9 s).bi, .int .u32 (headG9 s).ve, .string (headG9 s).dc, .string (headG9 s).sc, .string (headG9 s).re], .int .i64 (errG9 s)]) ∧ Below w.heap.size w w' := by
  have he : errG9 s = idE s 5 := by unfold errG9; rw [if_neg h0, if_neg (by omega), if_neg h1, if_neg (by omega), if_neg h3]
  have hh := headG9_no (s := s) (by omega)
  rw [hh, he]
  show Calls _ _ _ _ fun e' w' => e' = .returned (.tuple #[.agg #[.bool false, .int .i64 0, .int .u32 0, .string ⟨#[]⟩, .string ⟨#[]⟩, .string ⟨#[]⟩], .int .i64 (idE s 5)]) ∧ Below w.heap.size w w'
  have hlt : 0 < s.size := by omega
  have q0 := byte_at s 0 hlt
  have b0 := bt_lt s 0
  have j0 : (0 : Int) < s.size := by omega
  have ne : (s.toList == []) = false := by
    rw [ByteArray.toList_eq]
    cases hl : s.data.toList with
    | nil => exact absurd (show s.size = 0 by rw [size_list, hl]; rfl) h0
    | cons x l => rfl
  have hdc : decide ((128 : Int) ≤ ((bt s 0 : Nat) : Int)) = true := decide_eq_true (by omega)
  have htm : ((bt s 0 : Nat) : Int).tmod 64 = ((bt s 0 : Nat) : Int) % 64 := Int.tmod_eq_emod_of_nonneg (by omega)
  have v1 : (((bt s 0 : Nat) : Int) / 64 % 2 == 0) = false := by simp; omega
  have v2 : (128 : Int) ≤ (bt s 0 : Nat) := by omega
  have x1 : IntKind.i64.wrap (((bt s 0 : Nat) : Int) % 64) = ((bt s 0 : Nat) : Int) % 64 := IntWalk.i64_in _ (by omega)
  have HW := HasB.new w 24 #[.bool false, .int .i64 0, .int .u32 0, .string ⟨#[]⟩, .string ⟨#[]⟩, .string ⟨#[]⟩]
  have HL : Below w.heap.size w (w.alloc (.cells #[.bool false, .int .i64 0, .int .u32 0, .string ⟨#[]⟩, .string ⟨#[]⟩, .string ⟨#[]⟩] 24)) := (Below.refl _ _).alloc (Nat.le_refl _) _
  have v3 : ¬ (s.size : Int) < 5 := by omega
  have HM := Lib.hid (R02.must_seg s 1 4 1 4 rfl rfl (by unfold maxLen; omega) (by omega) (by omega) (by omega))
  have u2 : IntKind.u32.wrap (seg s 1 4 : Nat) = (seg s 1 4 : Nat) := wrap32' (seg_lt s 1 4)
  have hI := id_any s 5 hs (by omega)
  rw [show ((5 : Nat) : Int) = 5 from rfl] at hI
  have n5 : (idE s 5 != 0) = true := by simpa using h3
  have HI := Lib.hid hI
  generalize idE s 5 = E at *
  generalize idT s 5 = T at *
  generalize (idN s 5 : Int) = NN at *
  clear h h0 h1 h2 h3 he hh hI
  (go_enter Try.func11, Try.ntmps11; go_wp2_with fail)
  refine wp_region_noPanic ?_
  refine wp_region_held_drew (S := (fun _ => True)) (by kernel_rfl) trivial (fun hHeld => ?_)
  refine wpAnyH_take (i := 0) (oi := _) (v := ?v0a) rfl (by kernel_rfl) (by kernel_rfl) (by kernel_rfl) (fun _ _ _ h => h) (Or.inl ⟨by rfl, ?y0a⟩) (by assumption) ?r0a
  case y0a => intro w0 hSw; (try dsimp only at hSw); go_simp; try with_reducible rfl
  try simp only [Act.put, List.setIfInBounds_toArray, List.set_cons_zero, List.set_cons_succ, List.getElem_toArray, List.getElem_cons_zero]
  refine wpAnyH_take (i := 1) (oi := _) (v := ?v1a) rfl (by kernel_rfl) (by kernel_rfl) (by kernel_rfl) (fun _ _ _ h => h) (Or.inl ⟨by rfl, ?y1a⟩) (by assumption) ?r1a
  case y1a => intro w0 hSw; (try dsimp only at hSw); go_simp; try with_reducible rfl
  try simp only [Act.put, List.setIfInBounds_toArray, List.set_cons_zero, List.set_cons_succ, List.getElem_toArray, List.getElem_cons_succ, List.getElem_cons_zero]
  refine wpAnyH_take (i := 2) (oi := _) (v := ?v2a) rfl (by kernel_rfl) (by kernel_rfl) (by kernel_rfl) (fun _ _ _ h => h) (Or.inl ⟨by rfl, ?y2a⟩) (by assumption) ?r2a
  case y2a => intro w0 hSw; (try dsimp only at hSw); go_simp; try with_reducible rfl
  try simp only [Act.put, List.setIfInBounds_toArray, List.set_cons_zero, List.set_cons_succ, List.getElem_toArray, List.getElem_cons_succ, List.getElem_cons_zero]
  refine wpAnyH_take (i := 3) (oi := _) (v := ?v3a) rfl (by kernel_rfl) (by kernel_rfl) (by kernel_rfl) (fun _ _ _ h => h) (Or.inl ⟨by rfl, ?y3a⟩) (by assumption) ?r3a
  case y3a => intro w0 hSw; (try dsimp only at hSw); go_simp; try with_reducible rfl
  try simp only [Act.put, List.setIfInBounds_toArray, List.set_cons_zero, List.set_cons_succ, List.getElem_toArray, List.getElem_cons_succ, List.getElem_cons_zero]
  refine wpAnyH_take (i := 4) (oi := _) (v := ?v4a) rfl (by kernel_rfl) (by kernel_rfl) (by kernel_rfl) (fun _ _ _ h => h) (Or.inl ⟨by rfl, ?y4a⟩) (by assumption) ?r4a
  case y4a => intro w0 hSw; (try dsimp only at hSw); go_simp; try with_reducible rfl
  try simp only [Act.put, List.setIfInBounds_toArray, List.set_cons_zero, List.set_cons_succ, List.getElem_toArray, List.getElem_cons_succ, List.getElem_cons_zero]
  refine wpAnyH_take (i := 5) (oi := _) (v := ?v5a) rfl (by kernel_rfl) (by kernel_rfl) (by kernel_rfl) (fun _ _ _ h => h) (Or.inl ⟨by rfl, ?y5a⟩) (by assumption) ?r5a
  case y5a => intro w0 hSw; (try dsimp only at hSw); go_simp; try with_reducible rfl
  try simp only [Act.put, List.setIfInBounds_toArray, List.set_cons_zero, List.set_cons_succ, List.getElem_toArray, List.getElem_cons_succ, List.getElem_cons_zero]
  refine wpAnyH_take (i := 6) (oi := _) (v := ?v6a) rfl (by kernel_rfl) (by kernel_rfl) (by kernel_rfl) (fun _ _ _ h => h) (Or.inl ⟨by rfl, ?y6a⟩) (by assumption) ?r6a
  case y6a => intro w0 hSw; (try dsimp only at hSw); go_simp; try with_reducible rfl
  try simp only [Act.put, List.setIfInBounds_toArray, List.set_cons_zero, List.set_cons_succ, List.getElem_toArray, List.getElem_cons_succ, List.getElem_cons_zero]
  refine wpAnyH_take (i := 7) (oi := _) (v := ?v7a) rfl (by kernel_rfl) (by kernel_rfl) (by kernel_rfl) (fun _ _ _ h => h) (Or.inl ⟨by rfl, ?y7a⟩) (by assumption) ?r7a
  case y7a => intro w0 hSw; (try dsimp only at hSw); go_simp; try with_reducible rfl
  try simp only [Act.put, List.setIfInBounds_toArray, List.set_cons_zero, List.set_cons_succ, List.getElem_toArray, List.getElem_cons_succ, List.getElem_cons_zero]
  refine wpAnyH_ready (rs := [8]) (by kernel_rfl) (by simp) ?_
  refine AllReadyH.cons (o := _) rfl (fun K hK => ?_) AllReadyH.nil
  go_simp
  refine hK.out _ _ trivial (fun hHeld => ?_)
  clear hK K
  try simp only [Act.put, List.setIfInBounds_toArray, List.set_cons_zero, List.set_cons_succ, List.getElem_toArray, List.getElem_cons_succ, List.getElem_cons_zero]
  refine wpAnyH_ready (rs := [9]) (by kernel_rfl) (by simp) ?_
  refine AllReadyH.cons (o := _) rfl (fun K hK => ?_) AllReadyH.nil
  go_simp
  refine hK.out _ _ trivial (fun hHeld => ?_)
  clear hK K
  try simp only [Act.put, List.setIfInBounds_toArray, List.set_cons_zero, List.set_cons_succ, List.getElem_toArray, List.getElem_cons_succ, List.getElem_cons_zero]
  refine wpAnyH_done (by kernel_rfl) ?_ _
  refine NoPanic.normal ?_
  have HX : St9 w (World.drew ((w.alloc (.cells #[.bool false, .int .i64 0, .int .u32 0, .string ⟨#[]⟩, .string ⟨#[]⟩, .string ⟨#[]⟩] 24)).alloc (.cells #[.bool true, .int .i64 (((bt s 0 : Nat) : Int) % 64), .int .u32 (0), .string (⟨#[]⟩), .string (⟨#[]⟩), .string (⟨#[]⟩)] 24))) #[.bool true, .int .i64 (((bt s 0 : Nat) : Int) % 64), .int .u32 (0), .string (⟨#[]⟩), .string (⟨#[]⟩), .string (⟨#[]⟩)] := by
    refine ⟨HasB.drew (HW.alloc _), ?_, (HL.alloc (by simp) _).drew⟩
    have := HasB.new (w.alloc (.cells #[.bool false, .int .i64 0, .int .u32 0, .string ⟨#[]⟩, .string ⟨#[]⟩, .string ⟨#[]⟩] 24)) 24 #[.bool true, .int .i64 (((bt s 0 : Nat) : Int) % 64), .int .u32 (0), .string (⟨#[]⟩), .string (⟨#[]⟩), .string (⟨#[]⟩)]
    rw [World.size_alloc] at this
    exact HasB.drew this
  clear HW HL
  revert HX
  generalize World.drew (World.alloc (w.alloc _) _) = X
  intro HX
  have c0 := HasB.cell HX.2.1 0 (.bool true) rfl
  have c2 := HasB.cell HX.2.1 2 (.int .u32 0) rfl
  have f2 := HasB.free HX.2.1 2
  have HY := HX.put 2 (.int .u32 (seg s 1 4 : Nat))
  replace HX : St9 w _ #[.bool true, .int .i64 (((bt s 0 : Nat) : Int) % 64), .int .u32 ((seg s 1 4 : Nat)), .string (⟨#[]⟩), .string (⟨#[]⟩), .string (⟨#[]⟩)] := HY
  clear HY
  have hro := HasB.rowOk HX.1 (n := 6) rfl
  go_wp2_with (first | (go_at_call 26; (with_reducible refine (HM.out _).mono ?_); rintro e wm ⟨rfl, rfl⟩) | (go_at_call 27; (with_reducible refine (HI.out _).mono ?_); rintro e wm ⟨rfl, rfl⟩) | fail)
  (try simp only [Exit.inBlock, Exit.then]); refine bodyPost_ret (v := .tuple #[.agg #[.bool false, .int .i64 0, .int .u32 0, .string ⟨#[]⟩, .string ⟨#[]⟩, .string ⟨#[]⟩], .int .i64 E]) (results_cell2 Try.results11 _ _ w.heap.size _ _ rfl (HasB.setRow HX.1 #[.bool false, .int .i64 0, .int .u32 0, .string ⟨#[]⟩, .string ⟨#[]⟩, .string ⟨#[]⟩]) Try.underlying24 infoR9 rfl) rfl ⟨rfl, (below_setRow HX.2.2 (Nat.le_refl _) #[.bool false, .int .i64 0, .int .u32 0, .string ⟨#[]⟩, .string ⟨#[]⟩, .string ⟨#[]⟩])⟩
set_option maxRecDepth 100000 in
set_option maxHeartbeats 2000000 in
theorem get_id2 (s : ByteArray) (hs : s.size ≤ 1099511627776) (w : World) (h0 : s.size ≠ 0) (h : bt s 0 / 64 % 2 = 1) (h1 : ¬ bt s 0 < 128) (h2 : 5 ≤ s.size) (h3 : idE s 5 = 0) (h4 : idE s (idN s 5) ≠ 0) : Calls Try.prog 11 #[.string s] w fun e w' => e = .returned (.tuple #[.agg #[.bool (headG9 s).lg, .int .i64 (headG9 s).bi, .int .u32 (headG9 s).ve, .string (headG9 s).dc, .string (headG9 s).sc, .string (headG9 s).re], .int .i64 (errG9 s)]) ∧ Below w.heap.size w w' := by
  have he : errG9 s = idE s (idN s 5) := by unfold errG9; rw [if_neg h0, if_neg (by omega), if_neg h1, if_neg (by omega), if_pos h3]
  have hh := headG9_no (s := s) (by omega)
  rw [hh, he]
  show Calls _ _ _ _ fun e' w' => e' = .returned (.tuple #[.agg #[.bool false, .int .i64 0, .int .u32 0, .string ⟨#[]⟩, .string ⟨#[]⟩, .string ⟨#[]⟩], .int .i64 (idE s (idN s 5))]) ∧ Below w.heap.size w w'
  obtain ⟨i1, i2, i3, i4, i5⟩ := idE_ok h3
  have hlt : 0 < s.size := by omega
  have q0 := byte_at s 0 hlt
  have b0 := bt_lt s 0
  have j0 : (0 : Int) < s.size := by omega
  have ne : (s.toList == []) = false := by
    rw [ByteArray.toList_eq]
    cases hl : s.data.toList with
    | nil => exact absurd (show s.size = 0 by rw [size_list, hl]; rfl) h0
    | cons x l => rfl
  have hdc : decide ((128 : Int) ≤ ((bt s 0 : Nat) : Int)) = true := decide_eq_true (by omega)
  have htm : ((bt s 0 : Nat) : Int).tmod 64 = ((bt s 0 : Nat) : Int) % 64 := Int.tmod_eq_emod_of_nonneg (by omega)
  have v1 : (((bt s 0 : Nat) : Int) / 64 % 2 == 0) = false := by simp; omega
  have v2 : (128 : Int) ≤ (bt s 0 : Nat) := by omega
  have x1 : IntKind.i64.wrap (((bt s 0 : Nat) : Int) % 64) = ((bt s 0 : Nat) : Int) % 64 := IntWalk.i64_in _ (by omega)
  have HW := HasB.new w 24 #[.bool false, .int .i64 0, .int .u32 0, .string ⟨#[]⟩, .string ⟨#[]⟩, .string ⟨#[]⟩]
  have HL : Below w.heap.size w (w.alloc (.cells #[.bool false, .int .i64 0, .int .u32 0, .string ⟨#[]⟩, .string ⟨#[]⟩, .string ⟨#[]⟩] 24)) := (Below.refl _ _).alloc (Nat.le_refl _) _
  have v3 : ¬ (s.size : Int) < 5 := by omega
  have HM := Lib.hid (R02.must_seg s 1 4 1 4 rfl rfl (by unfold maxLen; omega) (by omega) (by omega) (by omega))
  have u2 : IntKind.u32.wrap (seg s 1 4 : Nat) = (seg s 1 4 : Nat) := wrap32' (seg_lt s 1 4)
  have hI := id_any s 5 hs (by omega)
  rw [show ((5 : Nat) : Int) = 5 from rfl] at hI
  rw [h3] at hI
  have HI := Lib.hid hI
  have HJ := Lib.hid (id_any s (idN s 5) hs (by omega))
  have n5 : (idE s (idN s 5) != 0) = true := by simpa using h4
  generalize idE s (idN s 5) = E at *
  generalize idT s (idN s 5) = T2 at *
  generalize ((idN s (idN s 5) : Nat) : Int) = N2 at *
  generalize idT s 5 = T at *
  generalize ((idN s 5 : Nat) : Int) = NN at *
  clear h h0 h1 h2 h3 h4 he hh hI i1 i2 i3 i4 i5
  (go_enter Try.func11, Try.ntmps11; go_wp2_with fail)
  refine wp_region_noPanic ?_
  refine wp_region_held_drew (S := (fun _ => True)) (by kernel_rfl) trivial (fun hHeld => ?_)
  refine wpAnyH_take (i := 0) (oi := _) (v := ?v0a) rfl (by kernel_rfl) (by kernel_rfl) (by kernel_rfl) (fun _ _ _ h => h) (Or.inl ⟨by rfl, ?y0a⟩) (by assumption) ?r0a
  case y0a => intro w0 hSw; (try dsimp only at hSw); go_simp; try with_reducible rfl
  try simp only [Act.put, List.setIfInBounds_toArray, List.set_cons_zero, List.set_cons_succ, List.getElem_toArray, List.getElem_cons_zero]
  refine wpAnyH_take (i := 1) (oi := _) (v := ?v1a) rfl (by kernel_rfl) (by kernel_rfl) (by kernel_rfl) (fun _ _ _ h => h) (Or.inl ⟨by rfl, ?y1a⟩) (by assumption) ?r1a
  case y1a => intro w0 hSw; (try dsimp only at hSw); go_simp; try with_reducible rfl
  try simp only [Act.put, List.setIfInBounds_toArray, List.set_cons_zero, List.set_cons_succ, List.getElem_toArray, List.getElem_cons_succ, List.getElem_cons_zero]
  refine wpAnyH_take (i := 2) (oi := _) (v := ?v2a) rfl (by kernel_rfl) (by kernel_rfl) (by kernel_rfl) (fun _ _ _ h => h) (Or.inl ⟨by rfl, ?y2a⟩) (by assumption) ?r2a
  case y2a => intro w0 hSw; (try dsimp only at hSw); go_simp; try with_reducible rfl
  try simp only [Act.put, List.setIfInBounds_toArray, List.set_cons_zero, List.set_cons_succ, List.getElem_toArray, List.getElem_cons_succ, List.getElem_cons_zero]
  refine wpAnyH_take (i := 3) (oi := _) (v := ?v3a) rfl (by kernel_rfl) (by kernel_rfl) (by kernel_rfl) (fun _ _ _ h => h) (Or.inl ⟨by rfl, ?y3a⟩) (by assumption) ?r3a
  case y3a => intro w0 hSw; (try dsimp only at hSw); go_simp; try with_reducible rfl
  try simp only [Act.put, List.setIfInBounds_toArray, List.set_cons_zero, List.set_cons_succ, List.getElem_toArray, List.getElem_cons_succ, List.getElem_cons_zero]
  refine wpAnyH_take (i := 4) (oi := _) (v := ?v4a) rfl (by kernel_rfl) (by kernel_rfl) (by kernel_rfl) (fun _ _ _ h => h) (Or.inl ⟨by rfl, ?y4a⟩) (by assumption) ?r4a
  case y4a => intro w0 hSw; (try dsimp only at hSw); go_simp; try with_reducible rfl
  try simp only [Act.put, List.setIfInBounds_toArray, List.set_cons_zero, List.set_cons_succ, List.getElem_toArray, List.getElem_cons_succ, List.getElem_cons_zero]
  refine wpAnyH_take (i := 5) (oi := _) (v := ?v5a) rfl (by kernel_rfl) (by kernel_rfl) (by kernel_rfl) (fun _ _ _ h => h) (Or.inl ⟨by rfl, ?y5a⟩) (by assumption) ?r5a
  case y5a => intro w0 hSw; (try dsimp only at hSw); go_simp; try with_reducible rfl
  try simp only [Act.put, List.setIfInBounds_toArray, List.set_cons_zero, List.set_cons_succ, List.getElem_toArray, List.getElem_cons_succ, List.getElem_cons_zero]
  refine wpAnyH_take (i := 6) (oi := _) (v := ?v6a) rfl (by kernel_rfl) (by kernel_rfl) (by kernel_rfl) (fun _ _ _ h => h) (Or.inl ⟨by rfl, ?y6a⟩) (by assumption) ?r6a
  case y6a => intro w0 hSw; (try dsimp only at hSw); go_simp; try with_reducible rfl
  try simp only [Act.put, List.setIfInBounds_toArray, List.set_cons_zero, List.set_cons_succ, List.getElem_toArray, List.getElem_cons_succ, List.getElem_cons_zero]
  refine wpAnyH_take (i := 7) (oi := _) (v := ?v7a) rfl (by kernel_rfl) (by kernel_rfl) (by kernel_rfl) (fun _ _ _ h => h) (Or.inl ⟨by rfl, ?y7a⟩) (by assumption) ?r7a
  case y7a => intro w0 hSw; (try dsimp only at hSw); go_simp; try with_reducible rfl
  try simp only [Act.put, List.setIfInBounds_toArray, List.set_cons_zero, List.set_cons_succ, List.getElem_toArray, List.getElem_cons_succ, List.getElem_cons_zero]
  refine wpAnyH_ready (rs := [8]) (by kernel_rfl) (by simp) ?_
  refine AllReadyH.cons (o := _) rfl (fun K hK => ?_) AllReadyH.nil
  go_simp
  refine hK.out _ _ trivial (fun hHeld => ?_)
  clear hK K
  try simp only [Act.put, List.setIfInBounds_toArray, List.set_cons_zero, List.set_cons_succ, List.getElem_toArray, List.getElem_cons_succ, List.getElem_cons_zero]
  refine wpAnyH_ready (rs := [9]) (by kernel_rfl) (by simp) ?_
  refine AllReadyH.cons (o := _) rfl (fun K hK => ?_) AllReadyH.nil
  go_simp
  refine hK.out _ _ trivial (fun hHeld => ?_)
  clear hK K
  try simp only [Act.put, List.setIfInBounds_toArray, List.set_cons_zero, List.set_cons_succ, List.getElem_toArray, List.getElem_cons_succ, List.getElem_cons_zero]
  refine wpAnyH_done (by kernel_rfl) ?_ _
  refine NoPanic.normal ?_
  have HX : St9 w (World.drew ((w.alloc (.cells #[.bool false, .int .i64 0, .int .u32 0, .string ⟨#[]⟩, .string ⟨#[]⟩, .string ⟨#[]⟩] 24)).alloc (.cells #[.bool true, .int .i64 (((bt s 0 : Nat) : Int) % 64), .int .u32 (0), .string (⟨#[]⟩), .string (⟨#[]⟩), .string (⟨#[]⟩)] 24))) #[.bool true, .int .i64 (((bt s 0 : Nat) : Int) % 64), .int .u32 (0), .string (⟨#[]⟩), .string (⟨#[]⟩), .string (⟨#[]⟩)] := by
    refine ⟨HasB.drew (HW.alloc _), ?_, (HL.alloc (by simp) _).drew⟩
    have := HasB.new (w.alloc (.cells #[.bool false, .int .i64 0, .int .u32 0, .string ⟨#[]⟩, .string ⟨#[]⟩, .string ⟨#[]⟩] 24)) 24 #[.bool true, .int .i64 (((bt s 0 : Nat) : Int) % 64), .int .u32 (0), .string (⟨#[]⟩), .string (⟨#[]⟩), .string (⟨#[]⟩)]
    rw [World.size_alloc] at this
    exact HasB.drew this
  clear HW HL
  revert HX
  generalize World.drew (World.alloc (w.alloc _) _) = X
  intro HX
  have c0 := HasB.cell HX.2.1 0 (.bool true) rfl
  have c2 := HasB.cell HX.2.1 2 (.int .u32 0) rfl
  have f2 := HasB.free HX.2.1 2
  have HY := HX.put 2 (.int .u32 (seg s 1 4 : Nat))
  replace HX : St9 w _ #[.bool true, .int .i64 (((bt s 0 : Nat) : Int) % 64), .int .u32 ((seg s 1 4 : Nat)), .string (⟨#[]⟩), .string (⟨#[]⟩), .string (⟨#[]⟩)] := HY
  clear HY
  have hro := HasB.rowOk HX.1 (n := 6) rfl
  go_wp2_with (first | (go_at_call 26; (with_reducible refine (HM.out _).mono ?_); rintro e wm ⟨rfl, rfl⟩) | (go_at_call 27; (with_reducible refine (HI.out _).mono ?_); rintro e wm ⟨rfl, rfl⟩) | (go_at_call 27; (with_reducible refine (HJ.out _).mono ?_); rintro e wm ⟨rfl, rfl⟩) | fail)
  (try simp only [Exit.inBlock, Exit.then]); refine bodyPost_ret (v := .tuple #[.agg #[.bool false, .int .i64 0, .int .u32 0, .string ⟨#[]⟩, .string ⟨#[]⟩, .string ⟨#[]⟩], .int .i64 E]) (results_cell2 Try.results11 _ _ w.heap.size _ _ rfl (HasB.setRow HX.1 #[.bool false, .int .i64 0, .int .u32 0, .string ⟨#[]⟩, .string ⟨#[]⟩, .string ⟨#[]⟩]) Try.underlying24 infoR9 rfl) rfl ⟨rfl, (below_setRow HX.2.2 (Nat.le_refl _) #[.bool false, .int .i64 0, .int .u32 0, .string ⟨#[]⟩, .string ⟨#[]⟩, .string ⟨#[]⟩])⟩
set_option maxRecDepth 100000 in
set_option maxHeartbeats 2000000 in
theorem get_long (s : ByteArray) (hs : s.size ≤ 1099511627776) (w : World) (he : errG9 s = 0) (h1 : ¬ bt s 0 < 128) : Calls Try.prog 11 #[.string s] w fun e w' => e = .returned (.tuple #[.agg #[.bool (headG9 s).lg, .int .i64 (headG9 s).bi, .int .u32 (headG9 s).ve, .string (headG9 s).dc, .string (headG9 s).sc, .string (headG9 s).re], .int .i64 (errG9 s)]) ∧ Below w.heap.size w w' := by
  obtain ⟨h, h2, h3, h4, hh⟩ := errG9_long he h1
  have h0 : s.size ≠ 0 := by omega
  rw [hh, he, show ((bt s 0 % 64 : Nat) : Int) = ((bt s 0 : Nat) : Int) % 64 by omega]
  obtain ⟨i1, i2, i3, i4, i5⟩ := idE_ok h3
  obtain ⟨j1, j2, j3, j4, j5⟩ := idE_ok h4
  obtain ⟨Z, hZ⟩ : ∃ Z, Z = idN s (idN s 5) := ⟨_, rfl⟩
  show Calls _ _ _ _ fun e' w' => e' = .returned (.tuple #[.agg #[.bool true, .int .i64 (((bt s 0 : Nat) : Int) % 64), .int .u32 ((seg s 1 4 : Nat)), .string (idT s 5), .string (idT s (idN s 5)), .string (s.extract (idN s (idN s 5)) s.size)], .int .i64 0]) ∧ Below w.heap.size w w'
  have hlt : 0 < s.size := by omega
  have q0 := byte_at s 0 hlt
  have b0 := bt_lt s 0
  have j0 : (0 : Int) < s.size := by omega
  have ne : (s.toList == []) = false := by
    rw [ByteArray.toList_eq]
    cases hl : s.data.toList with
    | nil => exact absurd (show s.size = 0 by rw [size_list, hl]; rfl) h0
    | cons x l => rfl
  have hdc : decide ((128 : Int) ≤ ((bt s 0 : Nat) : Int)) = true := decide_eq_true (by omega)
  have htm : ((bt s 0 : Nat) : Int).tmod 64 = ((bt s 0 : Nat) : Int) % 64 := Int.tmod_eq_emod_of_nonneg (by omega)
  have v1 : (((bt s 0 : Nat) : Int) / 64 % 2 == 0) = false := by simp; omega
  have v2 : (128 : Int) ≤ (bt s 0 : Nat) := by omega
  have x1 : IntKind.i64.wrap (((bt s 0 : Nat) : Int) % 64) = ((bt s 0 : Nat) : Int) % 64 := IntWalk.i64_in _ (by omega)
  have HW := HasB.new w 24 #[.bool false, .int .i64 0, .int .u32 0, .string ⟨#[]⟩, .string ⟨#[]⟩, .string ⟨#[]⟩]
  have HL : Below w.heap.size w (w.alloc (.cells #[.bool false, .int .i64 0, .int .u32 0, .string ⟨#[]⟩, .string ⟨#[]⟩, .string ⟨#[]⟩] 24)) := (Below.refl _ _).alloc (Nat.le_refl _) _
  have v3 : ¬ (s.size : Int) < 5 := by omega
  have HM := Lib.hid (R02.must_seg s 1 4 1 4 rfl rfl (by unfold maxLen; omega) (by omega) (by omega) (by omega))
  have u2 : IntKind.u32.wrap (seg s 1 4 : Nat) = (seg s 1 4 : Nat) := wrap32' (seg_lt s 1 4)
  have hI := id_any s 5 hs (by omega)
  rw [show ((5 : Nat) : Int) = 5 from rfl] at hI
  rw [h3] at hI
  have HI := Lib.hid hI
  have hJ := id_any s (idN s 5) hs (by omega)
  rw [h4, ← hZ] at hJ
  have HJ := Lib.hid hJ
  have z1 : (0 : Int) ≤ (Z : Int) := by omega
  have z2 : (Z : Int) ≤ s.size := by omega
  rw [← hZ]
  generalize idT s (idN s 5) = T2 at *
  generalize idT s 5 = T at *
  generalize ((idN s 5 : Nat) : Int) = NN at *
  clear h h0 h1 h2 h3 h4 he hh hI hJ hZ i1 i2 i3 i4 i5 j1 j2 j3 j4 j5
  (go_enter Try.func11, Try.ntmps11; go_wp2_with fail)
  refine wp_region_noPanic ?_
  refine wp_region_held_drew (S := (fun _ => True)) (by kernel_rfl) trivial (fun hHeld => ?_)
  refine wpAnyH_take (i := 0) (oi := _) (v := ?v0a) rfl (by kernel_rfl) (by kernel_rfl) (by kernel_rfl) (fun _ _ _ h => h) (Or.inl ⟨by rfl, ?y0a⟩) (by assumption) ?r0a
  case y0a => intro w0 hSw; (try dsimp only at hSw); go_simp; try with_reducible rfl
  try simp only [Act.put, List.setIfInBounds_toArray, List.set_cons_zero, List.set_cons_succ, List.getElem_toArray, List.getElem_cons_zero]
  refine wpAnyH_take (i := 1) (oi := _) (v := ?v1a) rfl (by kernel_rfl) (by kernel_rfl) (by kernel_rfl) (fun _ _ _ h => h) (Or.inl ⟨by rfl, ?y1a⟩) (by assumption) ?r1a
  case y1a => intro w0 hSw; (try dsimp only at hSw); go_simp; try with_reducible rfl
  try simp only [Act.put, List.setIfInBounds_toArray, List.set_cons_zero, List.set_cons_succ, List.getElem_toArray, List.getElem_cons_succ, List.getElem_cons_zero]
  refine wpAnyH_take (i := 2) (oi := _) (v := ?v2a) rfl (by kernel_rfl) (by kernel_rfl) (by kernel_rfl) (fun _ _ _ h => h) (Or.inl ⟨by rfl, ?y2a⟩) (by assumption) ?r2a
  case y2a => intro w0 hSw; (try dsimp only at hSw); go_simp; try with_reducible rfl
  try simp only [Act.put, List.setIfInBounds_toArray, List.set_cons_zero, List.set_cons_succ, List.getElem_toArray, List.getElem_cons_succ, List.getElem_cons_zero]
  refine wpAnyH_take (i := 3) (oi := _) (v := ?v3a) rfl (by kernel_rfl) (by kernel_rfl) (by kernel_rfl) (fun _ _ _ h => h) (Or.inl ⟨by rfl, ?y3a⟩) (by assumption) ?r3a
  case y3a => intro w0 hSw; (try dsimp only at hSw); go_simp; try with_reducible rfl
  try simp only [Act.put, List.setIfInBounds_toArray, List.set_cons_zero, List.set_cons_succ, List.getElem_toArray, List.getElem_cons_succ, List.getElem_cons_zero]
  refine wpAnyH_take (i := 4) (oi := _) (v := ?v4a) rfl (by kernel_rfl) (by kernel_rfl) (by kernel_rfl) (fun _ _ _ h => h) (Or.inl ⟨by rfl, ?y4a⟩) (by assumption) ?r4a
  case y4a => intro w0 hSw; (try dsimp only at hSw); go_simp; try with_reducible rfl
  try simp only [Act.put, List.setIfInBounds_toArray, List.set_cons_zero, List.set_cons_succ, List.getElem_toArray, List.getElem_cons_succ, List.getElem_cons_zero]
  refine wpAnyH_take (i := 5) (oi := _) (v := ?v5a) rfl (by kernel_rfl) (by kernel_rfl) (by kernel_rfl) (fun _ _ _ h => h) (Or.inl ⟨by rfl, ?y5a⟩) (by assumption) ?r5a
  case y5a => intro w0 hSw; (try dsimp only at hSw); go_simp; try with_reducible rfl
  try simp only [Act.put, List.setIfInBounds_toArray, List.set_cons_zero, List.set_cons_succ, List.getElem_toArray, List.getElem_cons_succ, List.getElem_cons_zero]
  refine wpAnyH_take (i := 6) (oi := _) (v := ?v6a) rfl (by kernel_rfl) (by kernel_rfl) (by kernel_rfl) (fun _ _ _ h => h) (Or.inl ⟨by rfl, ?y6a⟩) (by assumption) ?r6a
  case y6a => intro w0 hSw; (try dsimp only at hSw); go_simp; try with_reducible rfl
  try simp only [Act.put, List.setIfInBounds_toArray, List.set_cons_zero, List.set_cons_succ, List.getElem_toArray, List.getElem_cons_succ, List.getElem_cons_zero]
  refine wpAnyH_take (i := 7) (oi := _) (v := ?v7a) rfl (by kernel_rfl) (by kernel_rfl) (by kernel_rfl) (fun _ _ _ h => h) (Or.inl ⟨by rfl, ?y7a⟩) (by assumption) ?r7a
  case y7a => intro w0 hSw; (try dsimp only at hSw); go_simp; try with_reducible rfl
  try simp only [Act.put, List.setIfInBounds_toArray, List.set_cons_zero, List.set_cons_succ, List.getElem_toArray, List.getElem_cons_succ, List.getElem_cons_zero]
  refine wpAnyH_ready (rs := [8]) (by kernel_rfl) (by simp) ?_
  refine AllReadyH.cons (o := _) rfl (fun K hK => ?_) AllReadyH.nil
  go_simp
  refine hK.out _ _ trivial (fun hHeld => ?_)
  clear hK K
  try simp only [Act.put, List.setIfInBounds_toArray, List.set_cons_zero, List.set_cons_succ, List.getElem_toArray, List.getElem_cons_succ, List.getElem_cons_zero]
  refine wpAnyH_ready (rs := [9]) (by kernel_rfl) (by simp) ?_
  refine AllReadyH.cons (o := _) rfl (fun K hK => ?_) AllReadyH.nil
  go_simp
  refine hK.out _ _ trivial (fun hHeld => ?_)
  clear hK K
  try simp only [Act.put, List.setIfInBounds_toArray, List.set_cons_zero, List.set_cons_succ, List.getElem_toArray, List.getElem_cons_succ, List.getElem_cons_zero]
  refine wpAnyH_done (by kernel_rfl) ?_ _
  refine NoPanic.normal ?_
  have HX : St9 w (World.drew ((w.alloc (.cells #[.bool false, .int .i64 0, .int .u32 0, .string ⟨#[]⟩, .string ⟨#[]⟩, .string ⟨#[]⟩] 24)).alloc (.cells #[.bool true, .int .i64 (((bt s 0 : Nat) : Int) % 64), .int .u32 (0), .string (⟨#[]⟩), .string (⟨#[]⟩), .string (⟨#[]⟩)] 24))) #[.bool true, .int .i64 (((bt s 0 : Nat) : Int) % 64), .int .u32 (0), .string (⟨#[]⟩), .string (⟨#[]⟩), .string (⟨#[]⟩)] := by
    refine ⟨HasB.drew (HW.alloc _), ?_, (HL.alloc (by simp) _).drew⟩
    have := HasB.new (w.alloc (.cells #[.bool false, .int .i64 0, .int .u32 0, .string ⟨#[]⟩, .string ⟨#[]⟩, .string ⟨#[]⟩] 24)) 24 #[.bool true, .int .i64 (((bt s 0 : Nat) : Int) % 64), .int .u32 (0), .string (⟨#[]⟩), .string (⟨#[]⟩), .string (⟨#[]⟩)]
    rw [World.size_alloc] at this
    exact HasB.drew this
  clear HW HL
  revert HX
  generalize World.drew (World.alloc (w.alloc _) _) = X
  intro HX
  have c0 := HasB.cell HX.2.1 0 (.bool true) rfl
  have c2 := HasB.cell HX.2.1 2 (.int .u32 0) rfl
  have f2 := HasB.free HX.2.1 2
  have HY := HX.put 2 (.int .u32 (seg s 1 4 : Nat))
  replace HX : St9 w _ #[.bool true, .int .i64 (((bt s 0 : Nat) : Int) % 64), .int .u32 ((seg s 1 4 : Nat)), .string (⟨#[]⟩), .string (⟨#[]⟩), .string (⟨#[]⟩)] := HY
  clear HY
  have c3 := HasB.cell HX.2.1 3 (.string ⟨#[]⟩) rfl
  have f3 := HasB.free HX.2.1 3
  have c4 := HasB.cell HX.2.1 4 (.string ⟨#[]⟩) rfl
  have f4 := HasB.free HX.2.1 4
  have c5 := HasB.cell HX.2.1 5 (.string ⟨#[]⟩) rfl
  have f5 := HasB.free HX.2.1 5
  have HY := ((HX.put 3 (.string T)).put 4 (.string T2)).put 5 (.string (s.extract Z s.size))
  have HX2 : St9 w _ #[.bool true, .int .i64 (((bt s 0 : Nat) : Int) % 64), .int .u32 ((seg s 1 4 : Nat)), .string (T), .string (T2), .string (s.extract Z s.size)] := HY
  have hro := HasB.rowOk HX2.1 (n := 6) rfl
  have hr2 := HasB.rowOk HX2.2.1 (n := 6) rfl
  have hrw := HasB.rowOf HX2.2.1
  go_wp2_with (first | (go_at_call 26; (with_reducible refine (HM.out _).mono ?_); rintro e wm ⟨rfl, rfl⟩) | (go_at_call 27; (with_reducible refine (HI.out _).mono ?_); rintro e wm ⟨rfl, rfl⟩) | (go_at_call 27; (with_reducible refine (HJ.out _).mono ?_); rintro e wm ⟨rfl, rfl⟩) | fail)
  (try simp only [Exit.inBlock, Exit.then]); refine bodyPost_ret (v := .tuple #[.agg #[.bool true, .int .i64 (((bt s 0 : Nat) : Int) % 64), .int .u32 ((seg s 1 4 : Nat)), .string (T), .string (T2), .string (s.extract Z s.size)], .int .i64 0]) (results_cell2 Try.results11 _ _ w.heap.size _ _ rfl (HasB.setRow HX2.1 #[.bool true, .int .i64 (((bt s 0 : Nat) : Int) % 64), .int .u32 ((seg s 1 4 : Nat)), .string (T), .string (T2), .string (s.extract Z s.size)]) Try.underlying24 infoR9 rfl) rfl ⟨rfl, below_setRow HX2.2.2 (Nat.le_refl _) #[.bool true, .int .i64 (((bt s 0 : Nat) : Int) % 64), .int .u32 ((seg s 1 4 : Nat)), .string (T), .string (T2), .string (s.extract Z s.size)]⟩
theorem get_any (s : ByteArray) (hs : s.size ≤ 1099511627776) (w : World) : Calls Try.prog 11 #[.string s] w fun e w' => e = .returned (.tuple #[.agg #[.bool (headG9 s).lg, .int .i64 (headG9 s).bi, .int .u32 (headG9 s).ve, .string (headG9 s).dc, .string (headG9 s).sc, .string (headG9 s).re], .int .i64 (errG9 s)]) ∧ Below w.heap.size w w' := by
  by_cases h0 : s.size = 0
  · exact get_empty s hs w h0
  · by_cases h : bt s 0 / 64 % 2 = 0
    · exact get_form s hs w h0 h
    · by_cases h1 : bt s 0 < 128
      · by_cases h2 : s.size < 9
        · exact get_scut s hs w h0 (by omega) h1 h2
        · exact get_short s hs w (errG9_isS (by omega) h1 (by omega)) h1
      · by_cases h2 : s.size < 5
        · exact get_lcut s hs w h0 (by omega) h1 h2
        · by_cases h3 : idE s 5 = 0
          · by_cases h4 : idE s (idN s 5) = 0
            · exact get_long s hs w (errG9_isL (by omega) h1 (by omega) h3 h4) h1
            · exact get_id2 s hs w h0 (by omega) h1 (by omega) h3 h4
          · exact get_id1 s hs w h0 (by omega) h1 (by omega) h3
end Go.Proofs.Ytniaelmloealbaa.R09

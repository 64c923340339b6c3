/- The contracts of package tcp: List, Stamp. -/
import Derived.Test.YtbnhneompibilaaTcpVisit
import Derived.Test.YtbnhneompibilaaLaw07
import Derived.RangeFuncRecord
import Derived.RangeFuncWrites
import Derived.RangeFuncBox
import Derived.Deep.AppendLies
namespace Go.Proofs.Ytbnhneompibilaa
open Go.RowKit Go.Shelf
set_option linter.unusedVariables false
attribute [local go_sem] Oper.semAt_some

def cellsX (l : List VX) : List Value := l.flatMap fun x => [.int .i64 (x.kd : Nat), .string x.da]
theorem cellsX_append (a b : List VX) : cellsX (a ++ b) = cellsX a ++ cellsX b := by simp [cellsX]
theorem cellsX_len : ∀ l : List VX, (cellsX l).length = l.length * 2
  | [] => rfl
  | x :: l => by
    have := cellsX_len l
    show ([_, _] ++ cellsX l).length = _
    rw [List.length_append, this]; simp; omega
theorem cellsX_at : ∀ (l : List Opx) (j : Nat) (h : j < l.length), (cellsX (l.map vx))[j * 2]? = some (.int .i64 (l[j].kd : Nat)) ∧ (cellsX (l.map vx))[j * 2 + 1]? = some (.string l[j].da)
  | o :: l, 0, _ => ⟨rfl, rfl⟩
  | o :: l, j + 1, h => by
    obtain ⟨a, b⟩ := cellsX_at l j (by simpa using h)
    rw [show (j + 1) * 2 = j * 2 + 2 by omega]
    exact ⟨a, b⟩
theorem Opts2At.ofRow {w : World} {B t n : Nat} {v : Value} {l : List Opx} (h : w.ownsRow B t 2 v n (cellsX (l.map vx))) : Opts2At w v l := by
  have hn : l.length = n := by have := h.1; rw [cellsX_len, List.length_map] at this; omega
  rcases h.2 with ⟨rfl, h0⟩ | ⟨g, cap, cur, rfl, _, hg, _, _, _, ht⟩
  · subst h0
    exact .inl ⟨rfl, List.eq_nil_of_length_eq_zero hn⟩
  · subst hn
    refine .inr ⟨g, cap, rfl, lt_of_block hg, fun j hj => ?_⟩
    obtain ⟨a, b⟩ := cellsX_at l j hj
    have key : ∀ (i : Nat) (u : Value), i < l.length * 2 → (cellsX (l.map vx))[i]? = some u → w.cell? ⟨g, i, none⟩ = some u := fun i u hi hu => by
      rw [cell_of_row w g i cur t (0, 0) hg]
      rw [← ht, List.getElem?_take, if_pos hi] at hu
      simpa using hu
    exact ⟨key _ _ (by omega) a, key _ _ (by omega) b⟩
theorem Try.infoO7t : (Try.prog.info? 50).map (fun i => (i.zero, i.size, i.bytes)) = some (some (.agg #[.int .i64 0, .string ⟨#[]⟩]), 2, 24) := by kernel_rfl
theorem hasB_from (B : Nat) (b0 : Nat) (t : TypeId) (cs : Array Value) (f : Nat → Act) (a' : Act) : OwnFrom B (fun (_ : Unit) W => ∃ Bx, b0 < Bx ∧ HasB W Bx t cs ∧ a' = f Bx) := fun s X Y row hs hg hr => by
  obtain ⟨Bx, h1, h2, h3⟩ := hs
  refine ⟨Bx, h1, (hg.block Bx h2.lt (fun e => ?_)).trans h2, h3⟩
  obtain ⟨_, o, ho, hc⟩ := hr Bx e.symm
  rw [show X.heap[Bx]? = _ from h2] at ho; cases ho; cases hc
/-- What holds between the rounds. -/
def KeepL (s : ByteArray) (w : World) (pre : List VX) (W : World) : Prop :=
  (∃ v, Boxed W (w.heap.size + 1 + 1) 43 v ∧ W.ownsRow w.heap.size 50 2 v pre.length (cellsX pre) ∧ ∀ y, y ∈ pre → y.pl ≠ -1) ∧
  Boxed W w.heap.size 43 (.slice none 0 0) ∧ Boxed W (w.heap.size + 1) 31 (.int .i64 0) ∧ Boxed W (w.heap.size + 1 + 1 + 1) 9 (.string s)
theorem keepL_own (s : ByteArray) (w : World) : Own (KeepL s w) := fun l X Y row hs hg hr =>
  ⟨holdsRow_own (β := List VX) w.heap.size (w.heap.size + 1 + 1) 43 50 2 (fun l => l.length) cellsX (fun pre _ => ∀ y, y ∈ pre → y.pl ≠ -1) l X Y row hs.1 hg hr,
    boxed_own (β := List VX) _ _ (fun _ => .slice none 0 0) l X Y row hs.2.1 hg hr, boxed_own (β := List VX) _ _ (fun _ => .int .i64 0) l X Y row hs.2.2.1 hg hr, boxed_own (β := List VX) _ _ (fun _ => .string s) l X Y row hs.2.2.2 hg hr⟩
def StopL (w : World) (c : Code) (pre : List VX) (W : World) : Prop :=
  (c = .ret ∧ ∃ y, y ∈ pre ∧ y.pl = -1) ∧ Boxed W w.heap.size 43 (.slice none 0 0) ∧ Boxed W (w.heap.size + 1) 31 (.int .i64 3)
theorem stopL_own (w : World) (c : Code) : Own (StopL w c) := fun l X Y row hs hg hr =>
  ⟨hs.1, boxed_own (β := List VX) _ _ (fun _ => .slice none 0 0) l X Y row hs.2.1 hg hr, boxed_own (β := List VX) _ _ (fun _ => .int .i64 3) l X Y row hs.2.2 hg hr⟩
theorem list_done {w W : World} {D n : Nat} {v : Value} {L : List Opx} (bR : Boxed W w.heap.size 43 (.slice none 0 0)) (bE : Boxed W (w.heap.size + 1) 31 (.int .i64 0)) (hrow : W.ownsRow w.heap.size 50 2 v n (cellsX (L.map vx))) (hB : Below w.heap.size w W) (hK : W.heap[D]? = some (.deferred (some []))) (hD : w.heap.size ≤ D) :
    ((W.setCell ⟨w.heap.size, 0, none⟩ v).setCell ⟨w.heap.size + 1, 0, none⟩ (.int .i64 0)).heap[D]? = some (.deferred (some [])) ∧
    (((W.setCell ⟨w.heap.size, 0, none⟩ v).setCell ⟨w.heap.size + 1, 0, none⟩ (.int .i64 0)).putObj D (.deferred none)).cell? ⟨w.heap.size, 0, none⟩ = some v ∧
    (((W.setCell ⟨w.heap.size, 0, none⟩ v).setCell ⟨w.heap.size + 1, 0, none⟩ (.int .i64 0)).putObj D (.deferred none)).cell? ⟨w.heap.size + 1, 0, none⟩ = some (.int .i64 0) ∧
    Opts2At (((W.setCell ⟨w.heap.size, 0, none⟩ v).setCell ⟨w.heap.size + 1, 0, none⟩ (.int .i64 0)).putObj D (.deferred none)) v L ∧
    Below w.heap.size w (((W.setCell ⟨w.heap.size, 0, none⟩ v).setCell ⟨w.heap.size + 1, 0, none⟩ (.int .i64 0)).putObj D (.deferred none)) := by
  have hK' := ((KeepsOthers.setCell W ⟨w.heap.size, 0, none⟩ v).trans (KeepsOthers.setCell _ ⟨w.heap.size + 1, 0, none⟩ (.int .i64 0))).same D _ hK rfl
  have bR2 := (bR.set v).other (B' := w.heap.size + 1) (by omega) (.int .i64 0)
  have bE2 := (bE.other (B' := w.heap.size) (by omega) v).set (.int .i64 0)
  have r1 := hrow.kept (grownBy_setCell' W w.heap.size v) (.inr (bR.not_row (by decide) hrow).symm)
  have r2 := r1.kept (grownBy_setCell' _ (w.heap.size + 1) (.int .i64 0)) (.inr ((bE.other (B' := w.heap.size) (by omega) v).not_row (by decide) r1).symm)
  refine ⟨hK', cell_kept bR2.cell (grownBy_putObj' _ D (.deferred none)) (fun r e => by cases e; exact ⟨_, hK', rfl⟩), cell_kept bE2.cell (grownBy_putObj' _ D (.deferred none)) (fun r e => by cases e; exact ⟨_, hK', rfl⟩), Opts2At.ofRow (ownsRow_putObj r2 _ hK' rfl), ?_⟩
  exact ((hB.setCell (p := ⟨w.heap.size, 0, none⟩) (by simp) _).setCell (p := ⟨w.heap.size + 1, 0, none⟩) (by simp) _).trans (belowK_b (w := w) (Nat.le_refl _) _ D _ _ hD hK' rfl rfl)
set_option maxRecDepth 100000 in
set_option maxHeartbeats 4000000 in
theorem list7_any (s : ByteArray) (hs : s.size ≤ 1099511627776) (w : World) :
    Calls Try.prog 14 #[.string s] w fun e w' => ∃ v, e = .returned (.tuple #[v, .int .i64 (optsE s)]) ∧ Opts2At w' v (optsV s) ∧ Below w.heap.size w w' := by
  obtain ⟨ti, hi, hz0, hz1, hz2⟩ := info_parts Try.infoO7t
  refine (callsIn_wide (n := 3)).1 ?_
  refine callsIn_of_wp_marks Try.func14 rfl trivial ?_ rfl
  simp only [Try.ntmps14, List.size_toArray, List.length_cons, List.length_nil, Nat.reduceAdd, Nat.reduceSub, Array.replicate_succ, Array.replicate_zero, List.push_toArray, List.append_toArray, List.nil_append, List.cons_append]
  gi_wp2_with (refine ⟨trivial, ?_⟩; gi_at_call 35; refine (callsIn_wide.2 (visited_any s _)).mono ?_; rintro e w' ⟨rfl, rfl⟩)
  have b1 := Boxed.new w 43 (.slice none 0 0)
  have b2 := Boxed.new (w.alloc (.cells #[.slice none 0 0] 43)) 31 (.int .i64 0)
  have b3 := Boxed.new ((w.alloc (.cells #[.slice none 0 0] 43)).alloc (.cells #[.int .i64 0] 31)) 43 (.slice none 0 0)
  have b4 := Boxed.new (((w.alloc (.cells #[.slice none 0 0] 43)).alloc (.cells #[.int .i64 0] 31)).alloc (.cells #[.slice none 0 0] 43)) 9 (.string s)
  simp only [World.size_alloc] at b2 b3 b4
  have hB0 : Below w.heap.size w ((((w.alloc (.cells #[.slice none 0 0] 43)).alloc (.cells #[.int .i64 0] 31)).alloc (.cells #[.slice none 0 0] 43)).alloc (.cells #[.string s] 9)) := ((((Below.refl _ w).alloc (Nat.le_refl _) _).alloc (by simp) _).alloc (by simp; omega) _).alloc (by simp; omega) _
  have hsz : (((((w.alloc (.cells #[.slice none 0 0] 43)).alloc (.cells #[.int .i64 0] 31)).alloc (.cells #[.slice none 0 0] 43)).alloc (.cells #[.string s] 9))).heap.size = w.heap.size + 4 := by simp
  have hI0 : KeepL s w [] ((((w.alloc (.cells #[.slice none 0 0] 43)).alloc (.cells #[.int .i64 0] 31)).alloc (.cells #[.slice none 0 0] 43)).alloc (.cells #[.string s] 9)) := ⟨⟨_, b3.alloc _, World.ownsRow_nil _ _ _ _, by simp⟩, ((b1.alloc _).alloc _).alloc _, (b2.alloc _).alloc _, b4⟩
  clear b1 b2 b3
  obtain ⟨W0, hW0⟩ : ∃ W0, ((((w.alloc (.cells #[.slice none 0 0] 43)).alloc (.cells #[.int .i64 0] 31)).alloc (.cells #[.slice none 0 0] 43)).alloc (.cells #[.string s] 9)) = W0 := ⟨_, rfl⟩
  rw [hW0] at b4 hB0 hsz hI0 ⊢
  clear hW0
  refine wpIn_rangeFunc_ownH rfl (by omega) (gf := 56) (lb := #[.pointer (some ⟨w.heap.size + 1 + 1 + 1, 0, none⟩)]) rfl trivial (enters_of Try.func56 (by kernel_rfl) rfl)
    (visited_stops (w.heap.size + 1 + 1 + 1) s hs _ (by omega) W0 (by omega) b4.cell) (fun h k => SameB.trans h k) (SameB.putObj (by omega)) (Below.refl _ _) (fun _ => rfl)
    (fun pre W => KeepL s w pre W ∧ Below w.heap.size w W)
    (fun c pre W => StopL w c pre W ∧ Below w.heap.size w W)
    (OwnFrom.and (Own.from (keepL_own s w) _) (ownFrom_below (Nat.le_refl _) (by omega)))
    (fun c => OwnFrom.and (Own.from (stopL_own w c) _) (ownFrom_below (Nat.le_refl _) (by omega)))
    ⟨hI0, hB0⟩
    (fun x a' W => ∃ Bx, w.heap.size + 1 + 1 + 1 < Bx ∧ HasB W Bx 50 #[.int .i64 (x.kd : Nat), .string x.da] ∧ a' = { tmps := #[.string s, undef, .pointer (some ⟨w.heap.size, 0, none⟩), .pointer (some ⟨w.heap.size + 1, 0, none⟩), .pointer (some ⟨w.heap.size + 1 + 1, 0, none⟩), .int .i64 x.pl, .pointer (some ⟨Bx, 0, none⟩), .string s, .func (.func 56) #[] #[.pointer (some ⟨w.heap.size + 1 + 1 + 1, 0, none⟩)], .int .i64 x.pl, .agg #[.int .i64 (x.kd : Nat), .string x.da], undef, undef, undef, undef, undef, undef, undef], defers := [] })
    (fun x a' => hasB_from _ _ _ _ (fun Bx => { tmps := #[.string s, undef, .pointer (some ⟨w.heap.size, 0, none⟩), .pointer (some ⟨w.heap.size + 1, 0, none⟩), .pointer (some ⟨w.heap.size + 1 + 1, 0, none⟩), .int .i64 x.pl, .pointer (some ⟨Bx, 0, none⟩), .string s, .func (.func 56) #[] #[.pointer (some ⟨w.heap.size + 1 + 1 + 1, 0, none⟩)], .int .i64 x.pl, .agg #[.int .i64 (x.kd : Nat), .string x.da], undef, undef, undef, undef, undef, undef, undef], defers := [] }) a') ?assign ?body ?done ?stop
  case assign =>
    rintro l pre x W K ⟨hI, hB⟩ hK
    rw [encV]
    gi_wp2
    have bS := hI.2.2.2
    exact hK _ _ ((KeepsOthers.alloc _ _).from _) ((show _ = _ from bS.alloc _).trans (show _ = _ from bS).symm) ⟨((keepL_own s w).from W0.heap.size).alloc _ hI, hB.alloc hB.size _⟩ ⟨W.heap.size, bS.lt, HasB.new W _ _, rfl⟩
  case body =>
    rintro l pre x a' W hl hr ⟨⟨⟨v, hv, hrow, hpl⟩, bR, bE, bS⟩, hB⟩ ⟨Bx, hBx, hX, rfl⟩ hlen
    have hc := hv.cell
    have x0 := HasB.cell hX 0 (.int .i64 (x.kd : Nat)) rfl
    have x1 := HasB.cell hX 1 (.string x.da) rfl
    by_cases hx : x.pl = -1
    · have nx : (x.pl == -1) = true := by simp [hx]
      have cR := bR.cell
      have fR := bR.frozen
      have cE := bE.cell
      have fE := bE.frozen
      gi_wp2
      exact ⟨((KeepsOthers.setCell _ _ _).trans (KeepsOthers.setCell _ _ _)).from _, ⟨⟨rfl, x, by simp, hx⟩, (bR.set _).other (by omega) _, (bE.other (by omega) _).set _⟩, (hB.setCell (p := ⟨w.heap.size, 0, none⟩) (by simp) _).setCell (p := ⟨w.heap.size + 1, 0, none⟩) (by simp) _⟩
    · have nx : (x.pl == -1) = false := by simp [hx]
      gi_wp2_with (first | (gi_at_builtin; refine wpListIn_append_own _ rfl _ _ 43 rfl w.heap.size 50 ti (.agg #[.int .i64 0, .string ⟨#[]⟩]) 2 24 Try.underlying43 hi hz0 hz1 hz2 rfl (by decide) _ _ _ rfl (hrow.alloc _) ⟨W.heap.size, 0, none⟩ 1 1 [.int .i64 (x.kd : Nat), .string x.da] rfl rfl (World.news_of_block (cs := #[.int .i64 (x.kd : Nat), .string x.da]) (t := 50) (fr := (0, 0)) (heap_alloc_new W _)) (by simp [Value.oneCell']) (by unfold maxLen; omega) (by omega) (by have := hB.size; simp; omega) ?_; intro v' w1 hown' hgrow _; obtain ⟨g', cap', rfl⟩ := ownsRow_succ hown'; obtain ⟨hv1, hv2, hr2, hk2, hb2⟩ := hv.appended (by decide) hrow hB.size (by omega) hown' hgrow; have hc1 := hv1.cell; have hf1 := hv1.frozen) | fail)
      have kS := ((bS.alloc _).kept hgrow (bS.not_row (by decide) hrow)).other (B' := w.heap.size + 1 + 1) (by omega) (.slice (some ⟨g', 0, none⟩) (pre.length + 1) cap')
      exact ⟨hk2.from _, (show _ = _ from kS).trans (show _ = _ from bS).symm, ⟨⟨_, hv2, by rw [cellsX_append, List.length_append]; exact hr2, fun y hy => (List.mem_append.1 hy).elim (hpl y) (fun e => by simp at e; subst e; exact hx)⟩,
        ((bR.alloc _).kept hgrow (bR.not_row (by decide) hrow)).other (by omega) _, ((bE.alloc _).kept hgrow (bE.not_row (by decide) hrow)).other (by omega) _, kS⟩, hB.trans hb2⟩
  case done =>
    rintro D ys W hD rfl ⟨⟨⟨v, hv, hrow, hpl⟩, bR, bE, bS⟩, hB⟩ hK
    obtain ⟨L, hL, hV⟩ := vis_done hpl
    rw [hV, List.length_map] at hrow
    have HL := Lib.hid (opts_some hL)
    have hc := hv.cell
    have cR := bR.cell
    have fR := bR.frozen
    have cE := bE.cell
    have fE := bE.frozen
    have HF := Lib.hid (list_done bR bE hrow hB hK (by rw [hsz] at hD; omega))
    rcases hrow.2 with ⟨rfl, _⟩ | ⟨g, cap, cur, rfl, _⟩
    all_goals
      clear hrow hv
      gi_wp2
      refine ⟨by simp, .inl ⟨_, _, rfl, run_takeDeferred HF.out.1, ?_⟩⟩
      have hc5 := HF.out.2.1
      have hc6 := HF.out.2.2.1
      refine ⟨_, by simp [results, Try.results14, go_sem, hc5, hc6]; rfl, _, by rw [HL.out.2], by rw [HL.out.1]; exact HF.out.2.2.2.1, HF.out.2.2.2.2⟩
  case stop =>
    rintro D c pre W hD hpre ⟨⟨⟨rfl, y, hy, hy1⟩, bR, bE⟩, hB⟩ hK
    have HL := Lib.hid (opts_none (vis_stop hpre hy hy1))
    gi_wp2
    refine ⟨by simp, .inl ⟨_, _, rfl, run_takeDeferred hK, ?_⟩⟩
    have hc5 := cell_kept bR.cell (grownBy_putObj' _ D (.deferred none)) (fun r e => by cases e; exact ⟨_, hK, rfl⟩)
    have hc6 := cell_kept bE.cell (grownBy_putObj' _ D (.deferred none)) (fun r e => by cases e; exact ⟨_, hK, rfl⟩)
    refine ⟨.tuple #[.slice none 0 0, .int .i64 3], by simp [results, Try.results14, go_sem, hc5, hc6], .slice none 0 0, by rw [HL.out.2], by rw [HL.out.1]; exact .inl ⟨rfl, rfl⟩, hB.trans (belowK_b (w := w) (Nat.le_refl _) W D _ _ (by omega) hK rfl rfl)⟩
end Go.Proofs.Ytbnhneompibilaa
namespace Go.Proofs.Ytbnhneompibilaa
open Go.RowKit Go.Shelf
set_option linter.unusedVariables false
attribute [local go_sem] Oper.semAt_some

/-- What the results' cells hold. -/
def KeepS (w : World) (r : Int × Int × Int) (W : World) : Prop := Boxed W w.heap.size 22 (.int .u32 r.1) ∧ Boxed W (w.heap.size + 1) 22 (.int .u32 r.2.1) ∧ Boxed W (w.heap.size + 1 + 1) 3 (.int .i64 r.2.2)
theorem KeepS.own {w X Y : World} {r : Int × Int × Int} {row : Option Nat} (h : KeepS w r X) (hg : X.grownBy Y row) (hr : ∀ k, row = some k → ∃ o : Obj, X.heap[k]? = some o ∧ o.isCells = false) : KeepS w r Y :=
  ⟨boxed_own (β := Unit) _ _ (fun _ => _) () X Y row h.1 hg hr, boxed_own (β := Unit) _ _ (fun _ => _) () X Y row h.2.1 hg hr, boxed_own (β := Unit) _ _ (fun _ => _) () X Y row h.2.2 hg hr⟩
theorem KeepS.below {w X Y : World} {r : Int × Int × Int} {B : Nat} (h : KeepS w r X) (hb : Below B X Y) (hB : w.heap.size + 3 ≤ B) : KeepS w r Y :=
  ⟨HasB.below (cs := #[.int .u32 r.1]) h.1 hb (by omega), HasB.below (cs := #[.int .u32 r.2.1]) h.2.1 hb (by omega), HasB.below (cs := #[.int .i64 r.2.2]) h.2.2 hb (by omega)⟩
theorem KeepS.set {w X : World} {r : Int × Int × Int} (h : KeepS w r X) (q : Int × Int × Int) : KeepS w q (((X.setCell ⟨w.heap.size, 0, none⟩ (.int .u32 q.1)).setCell ⟨w.heap.size + 1, 0, none⟩ (.int .u32 q.2.1)).setCell ⟨w.heap.size + 1 + 1, 0, none⟩ (.int .i64 q.2.2)) :=
  ⟨((h.1.set _).other (by omega) _).other (by omega) _, ((h.2.1.other (by omega) _).set _).other (by omega) _, ((h.2.2.other (by omega) _).other (by omega) _).set _⟩
theorem KeepS.cells {w X : World} {r : Int × Int × Int} (h : KeepS w r X) : X.cell? ⟨w.heap.size, 0, none⟩ = some (.int .u32 r.1) ∧ X.cell? ⟨w.heap.size + 1, 0, none⟩ = some (.int .u32 r.2.1) ∧ X.cell? ⟨w.heap.size + 1 + 1, 0, none⟩ = some (.int .i64 r.2.2) ∧ X.frozen? ⟨w.heap.size, 0, none⟩ = false ∧ X.frozen? ⟨w.heap.size + 1, 0, none⟩ = false ∧ X.frozen? ⟨w.heap.size + 1 + 1, 0, none⟩ = false :=
  ⟨h.1.cell, h.2.1.cell, h.2.2.cell, h.1.frozen, h.2.1.frozen, h.2.2.frozen⟩
theorem below_set3 {B : Nat} {w X : World} {a b c : Value} (h : Below B w X) (hB : B ≤ w.heap.size) : Below B w (((X.setCell ⟨w.heap.size, 0, none⟩ a).setCell ⟨w.heap.size + 1, 0, none⟩ b).setCell ⟨w.heap.size + 1 + 1, 0, none⟩ c) :=
  ((h.setCell (p := ⟨w.heap.size, 0, none⟩) hB _).setCell (p := ⟨w.heap.size + 1, 0, none⟩) (by simp; omega) _).setCell (p := ⟨w.heap.size + 1 + 1, 0, none⟩) (by simp; omega) _
theorem keeps_below {W W2 : World} (h : Below W.heap.size W W2) : KeepsOthers W W2 := ⟨h.size, fun k o hk _ => (h.block k (Array.getElem?_eq_some_iff.1 hk).1).trans hk⟩
theorem keeps_set3 (B : Nat) (X : World) (a b c : Addr) (u v t : Value) : KeepsFrom B X (((X.setCell a u).setCell b v).setCell c t) := (((KeepsOthers.setCell _ _ _).trans (KeepsOthers.setCell _ _ _)).trans (KeepsOthers.setCell _ _ _)).from _
def GoS (w : World) (Bs : Nat) (s : ByteArray) (pre : List VX) (W : World) : Prop := (∀ y, y ∈ pre → y.kd ≠ 8) ∧ KeepS w (0, 0, 0) W ∧ Boxed W Bs 9 (.string s)
theorem goS_own (w : World) (Bs : Nat) (s : ByteArray) : Own (GoS w Bs s) := fun l X Y row hs hg hr => ⟨hs.1, hs.2.1.own hg hr, boxed_own (β := List VX) _ _ (fun _ => .string s) l X Y row hs.2.2 hg hr⟩
def StopS (w : World) (c : Code) (pre : List VX) (W : World) : Prop := ∃ (i : List VX) (x : VX), c = .ret ∧ pre = i ++ [x] ∧ (∀ y, y ∈ i → y.kd ≠ 8) ∧ x.kd = 8 ∧ KeepS w (stampV x) W
theorem stopS_own (w : World) (c : Code) : Own (StopS w c) := fun l X Y row hs hg hr => by
  obtain ⟨i, x, h1, h2, h3, h4, h5⟩ := hs
  exact ⟨i, x, h1, h2, h3, h4, h5.own hg hr⟩
theorem ret_3 (r : Int × Int × Int) {q : Int × Int × Int} (h : q = r) : Ending.returned (.tuple #[.int .u32 r.1, .int .u32 r.2.1, .int .i64 r.2.2]) = .returned (.tuple #[.int .u32 q.1, .int .u32 q.2.1, .int .i64 q.2.2]) := by rw [h]
set_option maxRecDepth 100000 in
set_option maxHeartbeats 2000000 in
theorem stamp7_none (s : ByteArray) (hs : s.size ≤ 1099511627776) (ho : optsL s 0 = none) (w : World) :
    Calls Try.prog 16 #[.string s] w fun e w' => e = .returned (.tuple #[.int .u32 (stampS s).1, .int .u32 (stampS s).2.1, .int .i64 (stampS s).2.2]) ∧ Below w.heap.size w w' := by
  have hIL := isList_any s hs
  rw [ho] at hIL
  have IL := Lib.hid hIL
  have HS := Lib.hid (stampS_no ho)
  clear hIL ho
  refine (callsIn_wide (n := 3)).1 ?_
  refine callsIn_of_wp_marks Try.func16 rfl trivial ?_ rfl
  simp only [Try.ntmps16, List.size_toArray, List.length_cons, List.length_nil, Nat.reduceAdd, Nat.reduceSub, Array.replicate_succ, Array.replicate_zero, List.push_toArray, List.append_toArray, List.nil_append, List.cons_append]
  have b1 := (Boxed.new w 22 (.int .u32 0)).alloc (.cells #[.int .u32 0] 22)
  have b2 := Boxed.new (w.alloc (.cells #[.int .u32 0] 22)) 22 (.int .u32 0)
  have b3 := Boxed.new ((w.alloc (.cells #[.int .u32 0] 22)).alloc (.cells #[.int .u32 0] 22)) 3 (.int .i64 0)
  simp only [World.size_alloc] at b2 b3
  have hK0 : KeepS w (0, 0, 0) (((w.alloc (.cells #[.int .u32 0] 22)).alloc (.cells #[.int .u32 0] 22)).alloc (.cells #[.int .i64 0] 3)) := ⟨b1.alloc _, b2.alloc _, b3⟩
  have hB0 : Below w.heap.size w (((w.alloc (.cells #[.int .u32 0] 22)).alloc (.cells #[.int .u32 0] 22)).alloc (.cells #[.int .i64 0] 3)) := (((Below.refl _ w).alloc (Nat.le_refl _) _).alloc (by simp) _).alloc (by simp; omega) _
  have hsz : ((((w.alloc (.cells #[.int .u32 0] 22)).alloc (.cells #[.int .u32 0] 22)).alloc (.cells #[.int .i64 0] 3))).heap.size = w.heap.size + 3 := by simp
  clear b1 b2 b3
  gi_wp2_with (first | (refine ⟨trivial, ?_⟩; gi_at_call 32; (with_reducible refine (callsIn_wide.2 (IL.out _)).mono ?_); rintro e wa ⟨rfl, hb⟩; have hK1 := hK0.below hb (by rw [hsz]; omega); replace hB0 := hB0.trans (hb.mono (by rw [hsz]; omega)); have hs1 := hb.size; rw [hsz] at hs1; clear hK0 hb; obtain ⟨c1, c2, c3, f1, f2, f3⟩ := hK1.cells) | fail)
  have hK2 := hK1.set (0, 0, -1)
  obtain ⟨d1, d2, d3, _, _, _⟩ := hK2.cells
  refine ⟨.tuple #[.int .u32 0, .int .u32 0, .int .i64 (-1)], by simp [results, Try.results16, go_sem, d1, d2, d3], ret_3 (0, 0, -1) HS.out, below_set3 hB0 (Nat.le_refl _)⟩
set_option maxRecDepth 100000 in
set_option maxHeartbeats 4000000 in
theorem stamp7_some (s : ByteArray) (hs : s.size ≤ 1099511627776) (L : List Opx) (ho : optsL s 0 = some L) (w : World) :
    Calls Try.prog 16 #[.string s] w fun e w' => e = .returned (.tuple #[.int .u32 (stampS s).1, .int .u32 (stampS s).2.1, .int .i64 (stampS s).2.2]) ∧ Below w.heap.size w w' := by
  have hIL := isList_any s hs
  rw [ho] at hIL
  have IL := Lib.hid hIL
  have HO := Lib.hid ho
  clear hIL ho
  refine (callsIn_wide (n := 3)).1 ?_
  refine callsIn_of_wp_marks Try.func16 rfl trivial ?_ rfl
  simp only [Try.ntmps16, List.size_toArray, List.length_cons, List.length_nil, Nat.reduceAdd, Nat.reduceSub, Array.replicate_succ, Array.replicate_zero, List.push_toArray, List.append_toArray, List.nil_append, List.cons_append]
  have b1 := (Boxed.new w 22 (.int .u32 0)).alloc (.cells #[.int .u32 0] 22)
  have b2 := Boxed.new (w.alloc (.cells #[.int .u32 0] 22)) 22 (.int .u32 0)
  have b3 := Boxed.new ((w.alloc (.cells #[.int .u32 0] 22)).alloc (.cells #[.int .u32 0] 22)) 3 (.int .i64 0)
  simp only [World.size_alloc] at b2 b3
  have hK0 : KeepS w (0, 0, 0) (((w.alloc (.cells #[.int .u32 0] 22)).alloc (.cells #[.int .u32 0] 22)).alloc (.cells #[.int .i64 0] 3)) := ⟨b1.alloc _, b2.alloc _, b3⟩
  have hB0 : Below w.heap.size w (((w.alloc (.cells #[.int .u32 0] 22)).alloc (.cells #[.int .u32 0] 22)).alloc (.cells #[.int .i64 0] 3)) := (((Below.refl _ w).alloc (Nat.le_refl _) _).alloc (by simp) _).alloc (by simp; omega) _
  have hsz : ((((w.alloc (.cells #[.int .u32 0] 22)).alloc (.cells #[.int .u32 0] 22)).alloc (.cells #[.int .i64 0] 3))).heap.size = w.heap.size + 3 := by simp
  clear b1 b2 b3
  gi_wp2_with (first | (refine ⟨trivial, ?_⟩; gi_at_call 32; (with_reducible refine (callsIn_wide.2 (IL.out _)).mono ?_); rintro e wa ⟨rfl, hb⟩; have hK1 := hK0.below hb (by rw [hsz]; omega); replace hB0 := hB0.trans (hb.mono (by rw [hsz]; omega)); have hs1 := hb.size; rw [hsz] at hs1; clear hK0 hb; obtain ⟨c1, c2, c3, f1, f2, f3⟩ := hK1.cells) | (refine ⟨trivial, ?_⟩; gi_at_call 35; refine (callsIn_wide.2 (visited_any s _)).mono ?_; rintro e w' ⟨rfl, rfl⟩) | fail)
  clear c1 c2 c3 f1 f2 f3
  have b4 := Boxed.new wa 9 (.string s)
  have hI0 : GoS w wa.heap.size s [] (wa.alloc (.cells #[.string s] 9)) := ⟨by simp, hK1.below ((Below.refl (w.heap.size + 3) wa).alloc hs1 _) (Nat.le_refl _), b4⟩
  replace hB0 := hB0.alloc (by omega) (.cells #[.string s] 9)
  have hsw : (wa.alloc (.cells #[.string s] 9)).heap.size = wa.heap.size + 1 := by simp
  obtain ⟨W0, hW0⟩ : ∃ W0, wa.alloc (.cells #[.string s] 9) = W0 := ⟨_, rfl⟩
  rw [hW0] at b4 hB0 hsw hI0 ⊢
  clear hW0
  refine wpIn_rangeFunc_ownH rfl (by omega) (gf := 56) (lb := #[.pointer (some ⟨wa.heap.size, 0, none⟩)]) rfl trivial (enters_of Try.func56 (by kernel_rfl) rfl)
    (visited_stops wa.heap.size s hs _ (by omega) W0 (by omega) b4.cell) (fun h k => SameB.trans h k) (SameB.putObj (by omega)) (Below.refl _ _) (fun _ => rfl)
    (fun pre W => GoS w wa.heap.size s pre W ∧ Below w.heap.size w W)
    (fun c pre W => StopS w c pre W ∧ Below w.heap.size w W)
    (OwnFrom.and (Own.from (goS_own w wa.heap.size s) _) (ownFrom_below (Nat.le_refl _) (by omega)))
    (fun c => OwnFrom.and (Own.from (stopS_own w c) _) (ownFrom_below (Nat.le_refl _) (by omega)))
    ⟨hI0, hB0⟩
    (fun x a' W => ∃ Bx, wa.heap.size < Bx ∧ HasB W Bx 50 #[.int .i64 (x.kd : Nat), .string x.da] ∧ a' = { tmps := #[.string s, undef, .pointer (some ⟨w.heap.size, 0, none⟩), .pointer (some ⟨w.heap.size + 1, 0, none⟩), .pointer (some ⟨w.heap.size + 1 + 1, 0, none⟩), .int .i64 x.pl, .pointer (some ⟨Bx, 0, none⟩), .string s, .bool true, .bool false, .string s, .func (.func 56) #[] #[.pointer (some ⟨wa.heap.size, 0, none⟩)], .int .i64 x.pl, .agg #[.int .i64 (x.kd : Nat), .string x.da], undef, undef, undef, undef, undef, undef, undef, undef, undef, undef], defers := [] })
    (fun x a' => hasB_from _ _ _ _ (fun Bx => { tmps := #[.string s, undef, .pointer (some ⟨w.heap.size, 0, none⟩), .pointer (some ⟨w.heap.size + 1, 0, none⟩), .pointer (some ⟨w.heap.size + 1 + 1, 0, none⟩), .int .i64 x.pl, .pointer (some ⟨Bx, 0, none⟩), .string s, .bool true, .bool false, .string s, .func (.func 56) #[] #[.pointer (some ⟨wa.heap.size, 0, none⟩)], .int .i64 x.pl, .agg #[.int .i64 (x.kd : Nat), .string x.da], undef, undef, undef, undef, undef, undef, undef, undef, undef, undef], defers := [] }) a') ?assign ?body ?done ?stop
  case assign =>
    rintro l pre x W K ⟨hI, hB⟩ hK
    rw [encV]
    gi_wp2
    have bS := hI.2.2
    exact hK _ _ ((KeepsOthers.alloc _ _).from _) ((show _ = _ from bS.alloc _).trans (show _ = _ from bS).symm) ⟨((goS_own w wa.heap.size s).from W0.heap.size).alloc _ hI, hB.alloc hB.size _⟩ ⟨W.heap.size, bS.lt, HasB.new W _ _, rfl⟩
  case body =>
    rintro l pre x a' W hl hr ⟨⟨hp, hKS, bS⟩, hB⟩ ⟨Bx, hBx, hX, rfl⟩ hlen
    have x0 := HasB.cell hX 0 (.int .i64 (x.kd : Nat)) rfl
    have x1 := HasB.cell hX 1 (.string x.da) rfl
    by_cases hx : x.kd = 8
    · have nx : (((x.kd : Nat) : Int) == 8) = true := by simp; omega
      have HS := Lib.hid (stampOf_any x)
      have hw3 : w.heap.size + 3 ≤ W.heap.size := by have := bS.lt; omega
      gi_wp2_with (first | (refine ⟨trivial, ?_⟩; gi_at_call 36; (with_reducible refine (CallsIn.inRound l (callsIn_wide.2 (HS.out _))).mono ?_); rintro e W2 ⟨rfl, hb⟩; have hK2 := hKS.below hb hw3; obtain ⟨c1, c2, c3, f1, f2, f3⟩ := hK2.cells) | fail)
      exact ⟨((keeps_below hb).from _).trans (keeps_set3 _ _ _ _ _ _ _ _), ⟨pre, x, rfl, rfl, hp, hx, hK2.set (stampV x)⟩, below_set3 (hB.trans (hb.mono hB.size)) (Nat.le_refl _)⟩
    · have nx : (((x.kd : Nat) : Int) == 8) = false := by simp; omega
      gi_wp2
      exact ⟨KeepsFrom.refl _ _, rfl, ⟨fun y hy => (List.mem_append.1 hy).elim (hp y) (fun e => by simp at e; subst e; exact hx), hKS, bS⟩, hB⟩
  case done =>
    rintro D ys W hD rfl ⟨⟨hne, hKS, bS⟩, hB⟩ hK
    have HS := Lib.hid (stampS_done HO.out hne)
    obtain ⟨c1, c2, c3, f1, f2, f3⟩ := hKS.cells
    have hK2 := hKS.set (0, 0, -1)
    have hB2 := below_set3 (a := .int .u32 0) (b := .int .u32 0) (c := .int .i64 (-1)) hB (Nat.le_refl _)
    have hK' := ((keeps_set3 D W ⟨w.heap.size, 0, none⟩ ⟨w.heap.size + 1, 0, none⟩ ⟨w.heap.size + 1 + 1, 0, none⟩ (.int .u32 0) (.int .u32 0) (.int .i64 (-1)))).same D _ (Nat.le_refl _) hK rfl
    have hK3 := hK2.own (grownBy_putObj' _ D (.deferred none)) (fun r e => by cases e; exact ⟨_, hK', rfl⟩)
    gi_wp2
    refine ⟨by simp, .inl ⟨_, _, rfl, run_takeDeferred hK', ?_⟩⟩
    obtain ⟨d1, d2, d3, _, _, _⟩ := hK3.cells
    refine ⟨.tuple #[.int .u32 0, .int .u32 0, .int .i64 (-1)], by simp [results, Try.results16, go_sem, d1, d2, d3], ret_3 (0, 0, -1) HS.out, hB2.trans (belowK_b (w := w) (Nat.le_refl _) _ D _ _ (by omega) hK' rfl rfl)⟩
  case stop =>
    rintro D c pre W hD hpre ⟨⟨i, x, rfl, rfl, hi, hx, hKS⟩, hB⟩ hK
    have HS := Lib.hid (stampS_stop HO.out hpre hi hx)
    gi_wp2
    refine ⟨by simp, .inl ⟨_, _, rfl, run_takeDeferred hK, ?_⟩⟩
    have hK3 := hKS.own (grownBy_putObj' _ D (.deferred none)) (fun r e => by cases e; exact ⟨_, hK, rfl⟩)
    obtain ⟨d1, d2, d3, _, _, _⟩ := hK3.cells
    refine ⟨.tuple #[.int .u32 (stampV x).1, .int .u32 (stampV x).2.1, .int .i64 (stampV x).2.2], by simp [results, Try.results16, go_sem, d1, d2, d3], ret_3 (stampV x) HS.out, hB.trans (belowK_b (w := w) (Nat.le_refl _) W D _ _ (by omega) hK rfl rfl)⟩
theorem stamp7_any (s : ByteArray) (hs : s.size ≤ 1099511627776) (w : World) :
    Calls Try.prog 16 #[.string s] w fun e w' => e = .returned (.tuple #[.int .u32 (stampS s).1, .int .u32 (stampS s).2.1, .int .i64 (stampS s).2.2]) ∧ Below w.heap.size w w' := by
  cases ho : optsL s 0 with
  | none => exact stamp7_none s hs ho w
  | some L => exact stamp7_some s hs L ho w
end Go.Proofs.Ytbnhneompibilaa

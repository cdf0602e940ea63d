import PyProof.Rows.All
import Wide.All
import OpenK.AllK
import Wide.FinOn
import HandS.ForMost
import HandS.More
import HandS.Wide
import HandS.Conv
import HandS.IsInst
import HandS.Evl
import HandS.ForExc
import HandS.TryOnly
import HandS.TryMany
import HandS.ExcIs
import HandS.SortInts
import HandS.SetFor
import HandS.More
import HandS.Style
import KE.RegKTryMore
import KE.RegKIsAll
import HandS.Dict
import PySem.Challenge.RW_skipladder_k14_whole_parts
set_option Elab.async false
set_option linter.all false
set_option maxRecDepth 100000
set_option maxHeartbeats 4000000
namespace Sk
open PySem PySem.Spec PyProof.Rows L2
/-! ### xs[lo:hi:step] of a list -/
def stepV (xs : List V) (lo hi : Option Int) (st : Int) : List V := (sliceRange (sliceBounds lo hi (some st) xs.length).1 (sliceBounds lo hi (some st) xs.length).2.1 (sliceBounds lo hi (some st) xs.length).2.2).filterMap (xs[·]?)
theorem vals_pick {xs : List V} {us : List Value} (r : Vals xs us) : ∀ idx : List Nat, Vals (idx.filterMap (xs[·]?)) (idx.filterMap (us[·]?))
  | [] => .nil
  | i :: idx => by
    have ih := vals_pick r idx
    rw [List.filterMap_cons, List.filterMap_cons]
    have hl := r.length
    rcases Nat.lt_or_ge i xs.length with lt | ge
    · obtain ⟨u, hu, ru⟩ : ∃ u, us[i]? = some u ∧ RelV xs[i] u := by
        have key : ∀ (xs : List V) (us : List Value) (i : Nat) (h : i < xs.length), Vals xs us → ∃ u, us[i]? = some u ∧ RelV xs[i] u := by
          intro xs
          induction xs with
          | nil => intro us i h r; exact absurd h (Nat.not_lt_zero i)
          | cons x xs ih =>
            intro us i h r
            cases r with
            | cons r1 r2 =>
              cases i with
              | zero => exact ⟨_, rfl, r1⟩
              | succ i => exact ih _ i (Nat.lt_of_succ_lt_succ h) r2
        exact key xs us i lt r
      rw [List.getElem?_eq_getElem lt, hu]
      exact .cons ru ih
    · rw [List.getElem?_eq_none ge, List.getElem?_eq_none (by omega)]
      exact ih
theorem range_few (idx : List Nat) (xs : List V) : (idx.filterMap (xs[·]?)).length ≤ idx.length := List.length_filterMap_le _ _
def rSlS (K : PySem.W.Frag) (st : Int) : V → Option Int → Option Int → Hp → VK → Prop := fun x lo hi H Q => ∃ a xs, x = .ref a ∧ SqL K H a xs ∧ (stepV xs lo hi st).length ≤ sizeLine ∧ ∀ p, H p = none → Q (.ref p) (upd H p (.lst (stepV xs lo hi st)))
theorem pe_sliceS {X : Cx} {e es : Expr} {te : TE} {lo hi : Option Expr} {tl th : TO} {pos p2 : Pos} {st : Int} (h0 : st ≠ 0) (he : PE X e te) (hl : PO X lo tl) (hu : PO X hi th) (hs : PE X es (tC (.int st))) : PE X (.Subscript e (.Slice lo hi (some es) p2) pos) (tSl (rSlS X.K st) te tl th) := by
  refine ⟨fun pins s σ H Q I h => ?_⟩
  refine Subscript_ (thn (he.run pins s σ H _ I h) fun v s1 ⟨x, H1, I1, r1, q1⟩ => ?_)
  refine wpAny_Slice (thn (hl.run pins s1 σ H1 _ I1 q1) fun vl s2 ⟨l, H2, I2, pl, q2⟩ => thn (hu.run pins s2 σ H2 _ I2 q2) fun vu s3 ⟨u, H3, I3, pu, q3⟩ => ?_)
  rw [evalPart_some]
  refine thn (hs.run pins s3 σ H3 (fun x H' => x = .int st ∧ H' = H3) I3 ⟨rfl, rfl⟩) fun vs s4 ⟨x4, H4, I4, r4, e4⟩ => ?_
  obtain ⟨rfl, rfl⟩ := e4
  obtain ⟨t, rfl⟩ := r4
  obtain ⟨a, xs, rfl, hx, sz, q⟩ := q3
  cases r1
  have I5 : Inv X pins σ H4 { s4 with heap := s4.heap.push { cls := .type "slice", data := .fields #[vl, vu, .int st t] } } := I4.kept (t' := s4.toks) fun b ob q => Heap.get?_push_of_some _ q
  obtain ⟨its, r, ht, hz⟩ := I5.list hx
  have pt : IsPart (.int st t) (some st) := .int st t
  refine tail_any (ops := [.ref a, .ref s4.heap.objs.size]) ht.isList.typeIs slot_list_getitem.lookup (wpAny_getItem_list_slice ht.isList (Heap.IsSliceOf.new ..) pl pu pt (fun z => h0 (Option.some.inj z)) ?_ (by rw [List.size_toArray]; have := r.length; omega)) (by with_unfolding_all rfl)
  have e1 : (slicePick its.toArray l u (some st)).toList = (sliceRange (sliceBounds l u (some st) xs.length).1 (sliceBounds l u (some st) xs.length).2.1 (sliceBounds l u (some st) xs.length).2.2).filterMap (its[·]?) := by
    unfold slicePick
    rw [List.size_toArray, ← r.length]
    simp
  refine ⟨.ref _, _, I5.laid (t' := s4.toks) (o := .lst (stepV xs l u st)) (fun b ob q => Heap.get?_push_of_some _ q) (Nat.le_refl _) ?_, rfl, q _ (I5.hok.fresh (Nat.le_refl _))⟩
  refine ⟨sz, (slicePick its.toArray l u (some st)).toList, 0, ?_, Heap.get?_push_size _ rfl⟩
  rw [e1]
  exact vals_pick r _
/-! ### a slice with a step above nought, of whole numbers -/
def stepI (xs : List Int) (lo hi : Option Int) (st : Int) : List Int := (sliceRange (sliceBounds lo hi (some st) xs.length).1 (sliceBounds lo hi (some st) xs.length).2.1 (sliceBounds lo hi (some st) xs.length).2.2).filterMap (xs[·]?)
theorem stepV_ints (xs : List Int) (lo hi : Option Int) (st : Int) : stepV (xs.map V.int) lo hi st = (stepI xs lo hi st).map V.int := by
  unfold stepV stepI
  rw [List.length_map, List.map_filterMap]
  refine congrArg (fun f => List.filterMap f _) (funext fun i => ?_)
  rw [List.getElem?_map]
theorem range_up {s t c : Int} (hs : 0 ≤ s) (hc : 0 < c) : (sliceRange s t c).Pairwise (· < ·) := by
  unfold sliceRange
  rw [List.pairwise_map]
  refine List.pairwise_lt_range.imp fun {k k'} h => ?_
  have m1 := Int.mul_lt_mul_of_pos_left (show (k : Int) < (k' : Int) by omega) hc
  have m2 := Int.mul_nonneg (Int.le_of_lt hc) (show 0 ≤ (k : Int) by omega)
  omega
theorem pick_sub {α : Type} (xs : List α) : ∀ (idx : List Nat) (k : Nat), idx.Pairwise (· < ·) → (∀ i ∈ idx, k ≤ i) → (idx.filterMap (xs[·]?)).Sublist (xs.drop k)
  | [], k, _, _ => List.nil_sublist _
  | i :: idx, k, r, hk => by
    have rr := List.pairwise_cons.mp r
    have ih := pick_sub xs idx (i + 1) rr.2 fun j hj => rr.1 j hj
    have ki := hk i List.mem_cons_self
    have dd : (xs.drop i).Sublist (xs.drop k) := by
      have e : xs.drop i = (xs.drop k).drop (i - k) := by
        rw [List.drop_drop]
        congr 1
        omega
      rw [e]
      exact List.drop_sublist _ _
    rw [List.filterMap_cons]
    rcases Nat.lt_or_ge i xs.length with lt | ge
    · rw [List.getElem?_eq_getElem lt]
      refine List.Sublist.trans ?_ dd
      rw [List.drop_eq_getElem_cons lt]
      exact ih.cons_cons _
    · rw [List.getElem?_eq_none ge]
      have e2 : (xs.drop (i + 1)).Sublist (xs.drop i) := by
        have e : xs.drop (i + 1) = (xs.drop i).drop 1 := by rw [List.drop_drop]
        rw [e]
        exact List.drop_sublist _ _
      exact ih.trans (e2.trans dd)
theorem bounds_lo {lo hi : Option Int} {c : Int} (hc : 0 < c) (n : Nat) : 0 ≤ (sliceBounds lo hi (some c) n).1 ∧ (sliceBounds lo hi (some c) n).2.2 = c := by
  have e : (some c).getD 1 = c := rfl
  refine ⟨?_, rfl⟩
  unfold sliceBounds
  dsimp only
  rw [e, if_pos hc]
  cases lo with
  | none => exact Int.le_refl 0
  | some i =>
    show 0 ≤ (if c > 0 then _ else _)
    rw [if_pos hc]
    exact Int.le_max_left _ _
theorem stepI_sub (xs : List Int) (lo hi : Option Int) {c : Int} (hc : 0 < c) : (stepI xs lo hi c).Sublist xs := by
  have b := bounds_lo (lo := lo) (hi := hi) hc xs.length
  have r : (sliceRange (sliceBounds lo hi (some c) xs.length).1 (sliceBounds lo hi (some c) xs.length).2.1 (sliceBounds lo hi (some c) xs.length).2.2).Pairwise (· < ·) := by
    rw [b.2]
    exact range_up b.1 hc
  exact pick_sub xs _ 0 r fun i _ => Nat.zero_le i
end Sk
namespace Sk
open PySem L2
def top (i : Nat) : Stmt := PySem.Challenge.pw_skipladder_k14_whole_parts.main.body.getD i (.Pass ⟨0, 0, 0, 0⟩)
abbrev s_power : Stmt := top 10
theorem sc_power : FnScope ["width", "level", "answer", "_"] ["width", "level"] (defScope s_power) := ⟨rfl, rfl, rfl, by decide +kernel, rfl, by decide +kernel, by decide +kernel⟩
abbrev s_block : Stmt := top 11
theorem sc_block : FnScope ["width", "level", "number"] ["width", "level", "number"] (defScope s_block) := ⟨rfl, rfl, rfl, by decide +kernel, rfl, by decide +kernel, by decide +kernel⟩
abbrev s_thinned : Stmt := top 12
theorem sc_thinned : FnScope ["width", "level", "row", "least", "number"] ["width", "level", "row"] (defScope s_thinned) := ⟨rfl, rfl, rfl, by decide +kernel, rfl, by decide +kernel, by decide +kernel⟩
abbrev s_tall : Stmt := top 13
theorem sc_tall : FnScope ["width", "high", "before", "number", "levels", "level"] ["width", "high", "before", "number"] (defScope s_tall) := ⟨rfl, rfl, rfl, by decide +kernel, rfl, by decide +kernel, by decide +kernel⟩
abbrev s_ladder_init : Stmt := inClass (top 15) 0
theorem sc_ladder_init : FnScope ["self", "width", "high"] ["self", "width", "high"] (defScope s_ladder_init) := ⟨rfl, rfl, rfl, by decide +kernel, rfl, by decide +kernel, by decide +kernel⟩
abbrev s_ladder_put : Stmt := inClass (top 15) 1
theorem sc_ladder_put : FnScope ["self", "number", "level", "went"] ["self", "number"] (defScope s_ladder_put) := ⟨rfl, rfl, rfl, by decide +kernel, rfl, by decide +kernel, by decide +kernel⟩
abbrev s_ladder_take : Stmt := inClass (top 15) 2
theorem sc_ladder_take : FnScope ["self", "number", "heirs", "level", "came"] ["self", "number"] (defScope s_ladder_take) := ⟨rfl, rfl, rfl, by decide +kernel, rfl, by decide +kernel, by decide +kernel⟩
abbrev s_ladder_has : Stmt := inClass (top 15) 3
theorem sc_ladder_has : FnScope ["self", "number"] ["self", "number"] (defScope s_ladder_has) := ⟨rfl, rfl, rfl, by decide +kernel, rfl, by decide +kernel, by decide +kernel⟩
abbrev s_ladder_row : Stmt := inClass (top 15) 4
theorem sc_ladder_row : FnScope ["self"] ["self"] (defScope s_ladder_row) := ⟨rfl, rfl, rfl, by decide +kernel, rfl, by decide +kernel, by decide +kernel⟩
abbrev s_ladder_level : Stmt := inClass (top 15) 5
theorem sc_ladder_level : FnScope ["self", "level"] ["self", "level"] (defScope s_ladder_level) := ⟨rfl, rfl, rfl, by decide +kernel, rfl, by decide +kernel, by decide +kernel⟩
abbrev s_ladder_ahead : Stmt := inClass (top 15) 6
theorem sc_ladder_ahead : FnScope ["self", "level", "number", "begin", "spot", "reach"] ["self", "level", "number"] (defScope s_ladder_ahead) := ⟨rfl, rfl, rfl, by decide +kernel, rfl, by decide +kernel, by decide +kernel⟩
abbrev s_ladder_trail : Stmt := inClass (top 15) 7
theorem sc_ladder_trail : FnScope ["self", "number"] ["self", "number"] (defScope s_ladder_trail) := ⟨rfl, rfl, rfl, by decide +kernel, rfl, by decide +kernel, by decide +kernel⟩
abbrev s_ladder_below : Stmt := inClass (top 15) 8
theorem sc_ladder_below : FnScope ["self", "number"] ["self", "number"] (defScope s_ladder_below) := ⟨rfl, rfl, rfl, by decide +kernel, rfl, by decide +kernel, by decide +kernel⟩
abbrev s_ladder_above : Stmt := inClass (top 15) 9
theorem sc_ladder_above : FnScope ["self", "number"] ["self", "number"] (defScope s_ladder_above) := ⟨rfl, rfl, rfl, by decide +kernel, rfl, by decide +kernel, by decide +kernel⟩
abbrev s_ladder_place : Stmt := inClass (top 15) 10
theorem sc_ladder_place : FnScope ["self", "number"] ["self", "number"] (defScope s_ladder_place) := ⟨rfl, rfl, rfl, by decide +kernel, rfl, by decide +kernel, by decide +kernel⟩
abbrev s_ladder_at : Stmt := inClass (top 15) 11
theorem sc_ladder_at : FnScope ["self", "place"] ["self", "place"] (defScope s_ladder_at) := ⟨rfl, rfl, rfl, by decide +kernel, rfl, by decide +kernel, by decide +kernel⟩
abbrev s_ladder_way : Stmt := inClass (top 15) 12
theorem sc_ladder_way : FnScope ["self", "place"] ["self", "place"] (defScope s_ladder_way) := ⟨rfl, rfl, rfl, by decide +kernel, rfl, by decide +kernel, by decide +kernel⟩
abbrev s_ladder_stretch : Stmt := inClass (top 15) 13
theorem sc_ladder_stretch : FnScope ["self", "low", "high", "number"] ["self", "low", "high"] (defScope s_ladder_stretch) := ⟨rfl, rfl, rfl, by decide +kernel, rfl, by decide +kernel, by decide +kernel⟩
abbrev s_ladder_counted : Stmt := inClass (top 15) 14
theorem sc_ladder_counted : FnScope ["self", "low", "high"] ["self", "low", "high"] (defScope s_ladder_counted) := ⟨rfl, rfl, rfl, by decide +kernel, rfl, by decide +kernel, by decide +kernel⟩
abbrev s_ladder_check_number : Stmt := inClass (top 15) 15
theorem sc_ladder_check_number : FnScope ["self", "number"] ["self", "number"] (defScope s_ladder_check_number) := ⟨rfl, rfl, rfl, by decide +kernel, rfl, by decide +kernel, by decide +kernel⟩
abbrev s_ladder_check_end : Stmt := inClass (top 15) 16
theorem sc_ladder_check_end : FnScope ["self", "number"] ["self", "number"] (defScope s_ladder_check_end) := ⟨rfl, rfl, rfl, by decide +kernel, rfl, by decide +kernel, by decide +kernel⟩
abbrev s_ladder_check_level : Stmt := inClass (top 15) 17
theorem sc_ladder_check_level : FnScope ["self", "level"] ["self", "level"] (defScope s_ladder_check_level) := ⟨rfl, rfl, rfl, by decide +kernel, rfl, by decide +kernel, by decide +kernel⟩
abbrev s_ladder_check_place : Stmt := inClass (top 15) 18
theorem sc_ladder_check_place : FnScope ["self", "place"] ["self", "place"] (defScope s_ladder_check_place) := ⟨rfl, rfl, rfl, by decide +kernel, rfl, by decide +kernel, by decide +kernel⟩
abbrev s_ladder_spot : Stmt := inClass (top 15) 19
theorem sc_ladder_spot : FnScope ["self", "number", "kept"] ["self", "number"] (defScope s_ladder_spot) := ⟨rfl, rfl, rfl, by decide +kernel, rfl, by decide +kernel, by decide +kernel⟩
abbrev s_ladder_at_or_none : Stmt := inClass (top 15) 20
theorem sc_ladder_at_or_none : FnScope ["self", "spot"] ["self", "spot"] (defScope s_ladder_at_or_none) := ⟨rfl, rfl, rfl, by decide +kernel, rfl, by decide +kernel, by decide +kernel⟩
abbrev s_ladder_before : Stmt := inClass (top 15) 21
theorem sc_ladder_before : FnScope ["self", "spot"] ["self", "spot"] (defScope s_ladder_before) := ⟨rfl, rfl, rfl, by decide +kernel, rfl, by decide +kernel, by decide +kernel⟩
abbrev s_ladder_begin : Stmt := inClass (top 15) 22
theorem sc_ladder_begin : FnScope ["self", "level", "number"] ["self", "level", "number"] (defScope s_ladder_begin) := ⟨rfl, rfl, rfl, by decide +kernel, rfl, by decide +kernel, by decide +kernel⟩
abbrev s_ladder_reach : Stmt := inClass (top 15) 23
theorem sc_ladder_reach : FnScope ["self", "level", "spot", "begin"] ["self", "level", "spot"] (defScope s_ladder_reach) := ⟨rfl, rfl, rfl, by decide +kernel, rfl, by decide +kernel, by decide +kernel⟩
abbrev s_ladder_heirs : Stmt := inClass (top 15) 24
theorem sc_ladder_heirs : FnScope ["self", "number", "spot", "levels", "after", "beside", "level"] ["self", "number"] (defScope s_ladder_heirs) := ⟨rfl, rfl, rfl, by decide +kernel, rfl, by decide +kernel, by decide +kernel⟩
abbrev s_ladder_walk : Stmt := inClass (top 15) 25
theorem sc_ladder_walk : FnScope ["self", "last", "places", "level", "spot", "reach"] ["self", "last"] (defScope s_ladder_walk) := ⟨rfl, rfl, rfl, by decide +kernel, rfl, by decide +kernel, by decide +kernel⟩
abbrev s_cut : Stmt := top 17
theorem sc_cut : FnScope ["ladder", "number", "moved", "other", "kept"] ["ladder", "number"] (defScope s_cut) := ⟨rfl, rfl, rfl, by decide +kernel, rfl, by decide +kernel, by decide +kernel⟩
abbrev s_poured : Stmt := top 18
theorem sc_poured : FnScope ["ladder", "other", "numbers", "number"] ["ladder", "other"] (defScope s_poured) := ⟨rfl, rfl, rfl, by decide +kernel, rfl, by decide +kernel, by decide +kernel⟩
abbrev s_l_cell_at : Stmt := top 20
theorem sc_l_cell_at : FnScope ["_law_script", "_law_k"] ["_law_script", "_law_k"] (defScope s_l_cell_at) := ⟨rfl, rfl, rfl, by decide +kernel, rfl, by decide +kernel, by decide +kernel⟩
abbrev s_l_number : Stmt := top 21
theorem sc_l_number : FnScope ["_law_cell", "_law_limit"] ["_law_cell", "_law_limit"] (defScope s_l_number) := ⟨rfl, rfl, rfl, by decide +kernel, rfl, by decide +kernel, by decide +kernel⟩
abbrev s_l_deed : Stmt := top 22
theorem sc_l_deed : FnScope ["_law_ladder", "_law_row", "_law_cell", "_law_limit", "_law_number_here"] ["_law_ladder", "_law_row", "_law_cell", "_law_limit"] (defScope s_l_deed) := ⟨rfl, rfl, rfl, by decide +kernel, rfl, by decide +kernel, by decide +kernel⟩
abbrev s_l_told : Stmt := top 23
theorem sc_l_told : FnScope ["_law_ladder", "_law_spot", "_law_found", "_law_level", "_law_row", "_law_number_here"] ["_law_ladder", "_law_spot"] (defScope s_l_told) := ⟨rfl, rfl, rfl, by decide +kernel, rfl, by decide +kernel, by decide +kernel⟩
abbrev s_l_made : Stmt := top 24
theorem sc_l_made : FnScope ["_law_width", "_law_high", "_law_row", "_law_ladder", "_law_number_here"] ["_law_width", "_law_high", "_law_row"] (defScope s_l_made) := ⟨rfl, rfl, rfl, by decide +kernel, rfl, by decide +kernel, by decide +kernel⟩
abbrev s_l_refused : Stmt := top 25
theorem sc_l_refused : FnScope ["_law_ladder", "_law_other", "e"] ["_law_ladder", "_law_other"] (defScope s_l_refused) := ⟨rfl, rfl, rfl, by decide +kernel, rfl, by decide +kernel, by decide +kernel⟩
abbrev s_l_refused_by_any : Stmt := top 26
theorem sc_l_refused_by_any : FnScope ["_law_ladder", "_law_number_here", "_law_refused_here", "e"] ["_law_ladder", "_law_number_here"] (defScope s_l_refused_by_any) := ⟨rfl, rfl, rfl, by decide +kernel, rfl, by decide +kernel, by decide +kernel⟩
abbrev s_l_half : Stmt := top 27
theorem sc_l_half : FnScope ["_law_ladder", "_law_row", "_law_spot", "_law_third", "_law_number_here", "_law_whole", "_law_due"] ["_law_ladder", "_law_row", "_law_spot"] (defScope s_l_half) := ⟨rfl, rfl, rfl, by decide +kernel, rfl, by decide +kernel, by decide +kernel⟩
abbrev s_l_goes_on : Stmt := top 28
theorem sc_l_goes_on : FnScope ["_law_ladder", "_law_part", "_law_row", "_law_rest", "_law_spot", "_law_fresh", "_law_left"] ["_law_ladder", "_law_part", "_law_row", "_law_rest", "_law_spot"] (defScope s_l_goes_on) := ⟨rfl, rfl, rfl, by decide +kernel, rfl, by decide +kernel, by decide +kernel⟩
abbrev s_l_ends : Stmt := top 29
theorem sc_l_ends : FnScope ["_law_ladder", "_law_gone", "_law_refused_here", "_law_level"] ["_law_ladder", "_law_gone"] (defScope s_l_ends) := ⟨rfl, rfl, rfl, by decide +kernel, rfl, by decide +kernel, by decide +kernel⟩
abbrev s_l_again : Stmt := top 30
theorem sc_l_again : FnScope ["_law_ladder", "_law_row", "_law_spot", "_law_fresh", "_law_piece", "_law_low", "_law_high", "_law_number_here"] ["_law_ladder", "_law_row", "_law_spot"] (defScope s_l_again) := ⟨rfl, rfl, rfl, by decide +kernel, rfl, by decide +kernel, by decide +kernel⟩
abbrev s_l_woven : Stmt := top 31
theorem sc_l_woven : FnScope ["_law_row", "_law_whole", "_law_size", "_law_spot", "_law_rows", "_law_one", "_law_two", "_law_due"] ["_law_row", "_law_whole", "_law_size", "_law_spot"] (defScope s_l_woven) := ⟨rfl, rfl, rfl, by decide +kernel, rfl, by decide +kernel, by decide +kernel⟩
abbrev s_l_is_there : Stmt := top 32
theorem sc_l_is_there : FnScope ["_law_ladder", "_law_number_here", "_law_levels", "_law_told_here", "_law_level", "_law_one"] ["_law_ladder", "_law_number_here"] (defScope s_l_is_there) := ⟨rfl, rfl, rfl, by decide +kernel, rfl, by decide +kernel, by decide +kernel⟩
abbrev s_l_by_turns : Stmt := top 33
theorem sc_l_by_turns : FnScope ["_law_ladder", "_law_row", "_law_whole", "_law_spot", "_law_number_here", "_law_held", "_law_kept", "_law_some", "_law_one"] ["_law_ladder", "_law_row", "_law_whole", "_law_spot"] (defScope s_l_by_turns) := ⟨rfl, rfl, rfl, by decide +kernel, rfl, by decide +kernel, by decide +kernel⟩
abbrev s_l_mated : Stmt := top 34
theorem sc_l_mated : FnScope ["_law_other", "_law_own", "_law_more", "_law_number_here"] ["_law_other", "_law_own"] (defScope s_l_mated) := ⟨rfl, rfl, rfl, by decide +kernel, rfl, by decide +kernel, by decide +kernel⟩
abbrev s_l_cut : Stmt := top 35
theorem sc_l_cut : FnScope ["_law_ladder", "_law_row", "_law_at", "_law_spot", "_law_width", "_law_high", "_law_whole", "_law_number_here", "_law_rest", "_law_left", "_law_part", "_law_due", "_law_other", "_law_own"] ["_law_ladder", "_law_row", "_law_at", "_law_spot"] (defScope s_l_cut) := ⟨rfl, rfl, rfl, by decide +kernel, rfl, by decide +kernel, by decide +kernel⟩
abbrev s_law : Stmt := top 36
theorem sc_law : FnScope ["_law_script", "_law_width", "_law_high", "_law_limit", "_law_turn", "_law_ladder", "_law_row", "_law_cells", "_law_cell", "_law_drawn", "_law_spot", "_law_far", "_law_at", "_law_k"] ["_law_script"] (defScope s_law) := ⟨rfl, rfl, rfl, by decide +kernel, rfl, by decide +kernel, by decide +kernel⟩
abbrev nI (i : Int) : Option V := some (.int i)
abbrev nR (a : Addr) : Option V := some (.ref a)
/-! ### powers -/
theorem pow_pos' {w : Int} (h : 2 ≤ w) (l : Nat) : 0 < w ^ l := Int.pow_pos (by omega)
theorem pow_le9 {w : Int} (h : 2 ≤ w) (h9 : w ≤ 9) : ∀ l : Nat, w ^ l ≤ 9 ^ l
  | 0 => by simp
  | l + 1 => by
    rw [Int.pow_succ, Int.pow_succ]
    have i := pow_le9 h h9 l
    have p := pow_pos' h l
    exact Int.mul_le_mul i h9 (by omega) (by omega)
theorem pow_le12 {w : Int} (h : 2 ≤ w) (h9 : w ≤ 9) {l : Nat} (hl : l ≤ 12) : w ^ l ≤ 282429536481 := by
  have i := pow_le9 h h9 l
  have j : (9 : Int) ^ l ≤ 9 ^ 12 := by
    have := Nat.pow_le_pow_right (n := 9) (by omega) hl
    exact_mod_cast this
  have k : (9 : Int) ^ 12 = 282429536481 := by decide
  omega
theorem div_ok {w : Int} (h : 2 ≤ w) (h9 : w ≤ 9) {l : Nat} (hl : l ≤ 12) (n : Int) : CDivW n (w ^ l) := by
  have p := pow_pos' h l
  have q := pow_le12 h h9 hl
  exact wide_div p (b := 64) (by omega) (by omega) (by omega)
theorem pow_ge2 {w : Int} (h : 2 ≤ w) : ∀ {l : Nat}, 1 ≤ l → 2 ≤ w ^ l
  | l + 1, _ => by
    rw [Int.pow_succ]
    have p := pow_pos' h l
    have := Int.mul_le_mul (show 1 ≤ w ^ l by omega) h (by omega) (by omega)
    omega
/-! ### deep equality of data -/
def dI (ns : List Int) : PyData := .list (ns.map PyData.int)
theorem dpAll_ints {K : PySem.W.Frag} {H : Hp} : ∀ ns : List Int, DpAll K H (ns.map V.int) (ns.map PyData.int)
  | [] => .nil
  | _ :: r => .cons (.int _) (dpAll_ints r)
theorem dp_ints {K : PySem.W.Frag} {H : Hp} {a : Addr} {ns : List Int} (h : SqL K H a (ns.map V.int)) : Dp K H (.ref a) (dI ns) := .lst h (dpAll_ints ns)
theorem canLay_ints : ∀ ns : List Int, PyData.canLayAll0 (ns.map PyData.int) = true
  | [] => rfl
  | _ :: r => canLay_ints r
theorem depth_ints : ∀ ns : List Int, PyData.depthAll (ns.map PyData.int) = 0
  | [] => rfl
  | _ :: r => by
    show max 0 (PyData.depthAll (r.map PyData.int)) = 0
    rw [depth_ints r]
    rfl
theorem shaped_ints (ns : List Int) : SeqAt.shaped (dI ns) = true := by
  unfold SeqAt.shaped dI
  have h1 : (PyData.list (ns.map PyData.int)).canLay0 = true := canLay_ints ns
  have h2 : (PyData.list (ns.map PyData.int)).depth = 1 := by
    show PyData.depthAll (ns.map PyData.int) + 1 = 1
    rw [depth_ints]
  rw [h1, h2]
  rfl
/-- two lists of the same ints are equal -/
theorem eqD_ints {K : PySem.W.Frag} {H : Hp} {a b : Addr} {ns ms : List Int} {Q : VK} (ha : SqL K H a (ns.map V.int)) (hb : SqL K H b (ms.map V.int)) (e : ns = ms) (q : Q (.bl true) H) : rEqD K (.ref a) (.ref b) H Q := by
  subst e
  refine ⟨dI ns, dI ns, dp_ints ha, dp_ints hb, shaped_ints ns, shaped_ints ns, ?_⟩
  rw [SeqAt.eqv_refl _ (SeqAt.canLay_of_shaped (shaped_ints ns))]
  exact q
/-! ### heaps -/
theorem same_upd {H : Hp} {p : Addr} {o : HO} (h : H p = none) : Same H (upd H p o) := fun b x e => by
  rw [upd_ne (ne_of_none e h)]
  exact e
theorem same_mut {H0 H : Hp} {p : Addr} {o : HO} (s : Same H0 H) (h : H0 p = none) : Same H0 (upd H p o) := fun b x e => by
  rw [upd_ne (ne_of_none e h)]
  exact s _ _ e
/-! ### from what a reading evaluates to, to the reading -/
theorem ev_use {te : TE} {σ : L2.St} {H : Hp} {v : V} {Q : VK} (h : Evl.Ev te σ H v) (k : ∀ H2, Same H H2 → Q v H2) : te σ H Q := h H (Evl.Ex.refl H) Q k
theorem evT_use {t : TT} {σ : L2.St} {H : Hp} {b : Bool} {Q : Bool → Hp → Prop} (h : Evl.EvT t σ H b) (k : ∀ H2, Same H H2 → Q b H2) : t σ H Q := h H (Evl.Ex.refl H) Q k
theorem evL_use {te : TE} {σ : L2.St} {H : Hp} {xs : List V} {Q : VK} (h : Evl.EvL te σ H xs) (k : ∀ p H2, H p = none → Same H H2 → H2 p = some (.lst xs) → Q (.ref p) H2) : te σ H Q := h H (Evl.Ex.refl H) Q k
/-- a built-in over a new list -/
theorem ev_cbL {r : List V → Hp → VK → Prop} {ta : TE} {σ : L2.St} {H : Hp} {xs : List V} {z : V} (h : Evl.EvL ta σ H xs) (hr : ∀ p H1, H1 p = some (.lst xs) → ∀ Q : VK, Q z H1 → r [.ref p] H1 Q) : Evl.Ev (tCB r (tCons ta tNil)) σ H z := fun H1 e Q q =>
  h H1 e _ fun p H2 _ e2 h2 => hr p H2 h2 Q (q H2 e2)
theorem et_yes {σ : L2.St} {H : Hp} : Evl.EvT tYes σ H true := fun H1 _ _ q => q H1 (Evl.Ex.refl H1)
theorem given_true (n : Nat) (v : V) : Evl.given n (fun _ => true) (fun _ => v) = List.replicate n v := by
  unfold Evl.given
  rw [List.filter_eq_self.mpr (fun _ _ => rfl), List.map_const', List.length_range]
/-- all([g(x) for x in xs]) where g tells True of each -/
theorem ev_allL {K : PySem.W.Frag} {te : TE} {σ : L2.St} {H : Hp} {n : Nat} (h : Evl.EvL te σ H (Evl.given n (fun _ => true) (fun _ => V.bl true))) : Evl.Ev (tCB (rAll K) (tCons te tNil)) σ H (.bl true) := ev_cbL h fun p H1 hp Q q => by
  rw [given_true, show List.replicate n (V.bl true) = (List.replicate n true).map V.bl by rw [List.map_replicate]] at hp
  refine ⟨p, _, rfl, SqL.of hp, ?_⟩
  rw [show (List.replicate n true).all id = true by rw [List.all_replicate]; simp]
  exact q
/-- an if of two tests, the first one by what it evaluates to -/
theorem s_and {t u : TT} {tu : TS} {D : Ends} {σ : L2.St} {H : Hp} {a : Bool} (h : Evl.EvT t σ H a) (k1 : a = true → ∀ H1, Same H H1 → u σ H1 fun c H2 => if c = true then tu D σ H2 else D.nx σ H2) (k0 : a = false → ∀ H1, Same H H1 → D.nx σ H1) : tIfS (tAnd t u) tu tNext D σ H :=
  h H (Evl.Ex.refl H) _ fun H1 e => by
    cases a with
    | true => exact k1 rfl H1 e
    | false => exact k0 rfl H1 e
/-! what stands on a level: those of a row whose block is not that of the one ahead of them -/
def thinP (s : Int) (f : Nat → Int) (k : Nat) : Bool := decide (k = 0) || !decide (f (k - 1) / s = f k / s)
def thinF (s : Int) (f : Nat → Int) (m : Nat) : List Int := ((List.range m).filter (thinP s f)).map f
theorem thinF_zero (s : Int) (f : Nat → Int) : thinF s f 0 = [] := rfl
theorem thinF_yes {s : Int} {f : Nat → Int} {m : Nat} (h : thinP s f m = true) : thinF s f (m + 1) = thinF s f m ++ [f m] := by
  unfold thinF
  rw [List.range_succ, List.filter_append, List.map_append, List.filter_cons, if_pos h]
  rfl
theorem thinF_no {s : Int} {f : Nat → Int} {m : Nat} (h : ¬ thinP s f m = true) : thinF s f (m + 1) = thinF s f m := by
  unfold thinF
  rw [List.range_succ, List.filter_append, List.map_append, List.filter_cons, if_neg h]
  exact List.append_nil _
theorem thinF_len (s : Int) (f : Nat → Int) (m : Nat) : (thinF s f m).length ≤ m := by
  unfold thinF
  rw [List.length_map]
  have h := List.length_filter_le (thinP s f) (List.range m)
  rw [List.length_range] at h
  exact h
theorem thin_last (s : Int) (f : Nat → Int) : ∀ m : Nat, ∃ (i : List Int) (z : Int), thinF s f (m + 1) = i ++ [z] ∧ z / s = f m / s
  | 0 => ⟨[], f 0, thinF_yes rfl, rfl⟩
  | m + 1 => by
    by_cases h : thinP s f (m + 1) = true
    · exact ⟨thinF s f (m + 1), f (m + 1), thinF_yes h, rfl⟩
    · obtain ⟨i, z, e, ez⟩ := thin_last s f m
      refine ⟨i, z, by rw [thinF_no h, e], ?_⟩
      rw [ez]
      unfold thinP at h
      simp at h
      exact h
def sp_thinned (K : PySem.W.Frag) : Sp := fun vs H Q _ => ∃ (wd : Int) (l : Nat) (a : Addr) (row : List Int), vs = [.int wd, .int (l : Int), .ref a] ∧ 2 ≤ wd ∧ wd ≤ 9 ∧ l ≤ 12 ∧ SqL K H a (row.map V.int) ∧ row.length ≤ 1000 ∧
  ∀ H' p, Same H H' → H p = none → H' p = some (.lst ((thinF (wd ^ l) (fun k => row.getD k 0) row.length).map V.int)) → Q (.ref p) H'
/-! ### equality of lists of ints, as a value -/
theorem eqvAll_ints : ∀ ns ms : List Int, PyData.eqvAll (ns.map PyData.int) (ms.map PyData.int) = decide (ns = ms)
  | [], [] => rfl
  | [], _ :: _ => rfl
  | _ :: _, [] => rfl
  | a :: ns, b :: ms => by
    show (PyData.eqv (.int a) (.int b) && PyData.eqvAll (ns.map PyData.int) (ms.map PyData.int)) = decide (a :: ns = b :: ms)
    rw [eqvAll_ints ns ms]
    show ((a == b) && decide (ns = ms)) = decide (a :: ns = b :: ms)
    by_cases h1 : a = b
    · subst h1
      by_cases h2 : ns = ms
      · subst h2
        simp
      · simp [h2]
    · simp [h1]
theorem eqv_dI (ns ms : List Int) : PyData.eqv (dI ns) (dI ms) = decide (ns = ms) := eqvAll_ints ns ms
theorem rv_eqI {K : PySem.W.Frag} {H : Hp} {a b : Addr} {ns ms : List Int} (ha : SqL K H a (ns.map V.int)) (hb : SqL K H b (ms.map V.int)) : Evl.RV (rEqD K) (.ref a) (.ref b) H (.bl (decide (ns = ms))) := fun H1 e Q q =>
  ⟨dI ns, dI ms, dp_ints (Evl.ex_l e ha), dp_ints (Evl.ex_l e hb), shaped_ints ns, shaped_ints ms, by
    rw [eqv_dI]
    exact q H1 (Evl.Ex.refl H1)⟩
theorem rv_neI {K : PySem.W.Frag} {H : Hp} {a b : Addr} {ns ms : List Int} (ha : SqL K H a (ns.map V.int)) (hb : SqL K H b (ms.map V.int)) : Evl.RV (rNeD K) (.ref a) (.ref b) H (.bl (!decide (ns = ms))) := fun H1 e Q q =>
  ⟨dI ns, dI ms, dp_ints (Evl.ex_l e ha), dp_ints (Evl.ex_l e hb), shaped_ints ns, shaped_ints ms, by
    rw [eqv_dI]
    exact q H1 (Evl.Ex.refl H1)⟩
/-- x in a list of ints -/
theorem inV_ints (x : Int) : ∀ ns : List Int, inV (.int x) (ns.map V.int) = decide (x ∈ ns)
  | [] => rfl
  | a :: ns => by
    show (eqV (.int a) (.int x) || inV (.int x) (ns.map V.int)) = decide (x ∈ a :: ns)
    rw [inV_ints x ns]
    show ((a == x) || decide (x ∈ ns)) = decide (x ∈ a :: ns)
    by_cases h1 : a = x
    · subst h1
      simp
    · have h2 : ¬ x = a := fun z => h1 z.symm
      simp [h1, h2]
theorem flat_ints (ns : List Int) : (ns.map V.int).all flatV = true := by
  rw [List.all_map]
  exact List.all_eq_true.mpr fun _ _ => rfl
theorem rv_inI {K : PySem.W.Frag} {H : Hp} {a : Addr} {ns : List Int} {x : Int} (ha : SqL K H a (ns.map V.int)) : Evl.RV (rIn K false) (.int x) (.ref a) H (.bl (decide (x ∈ ns))) := by
  rw [← inV_ints]
  exact Evl.rv_isL ha rfl (flat_ints ns)
theorem rv_niI {K : PySem.W.Frag} {H : Hp} {a : Addr} {ns : List Int} {x : Int} (ha : SqL K H a (ns.map V.int)) : Evl.RV (rIn K true) (.int x) (.ref a) H (.bl (!decide (x ∈ ns))) := by
  rw [← inV_ints]
  exact Evl.rv_niL ha rfl (flat_ints ns)
/-- two data that are the same -/
theorem eqD_same {K : PySem.W.Frag} {H : Hp} {x y : V} {d : PyData} {Q : VK} (hx : Dp K H x d) (hy : Dp K H y d) (sd : SeqAt.shaped d = true) (q : Q (.bl true) H) : rEqD K x y H Q := ⟨d, d, hx, hy, sd, sd, by
  rw [SeqAt.eqv_refl _ (SeqAt.canLay_of_shaped sd)]
  exact q⟩
theorem neD_same {K : PySem.W.Frag} {H : Hp} {x y : V} {d : PyData} {Q : VK} (hx : Dp K H x d) (hy : Dp K H y d) (sd : SeqAt.shaped d = true) (q : Q (.bl false) H) : rNeD K x y H Q := ⟨d, d, hx, hy, sd, sd, by
  rw [SeqAt.eqv_refl _ (SeqAt.canLay_of_shaped sd)]
  exact q⟩
theorem neD_ints {K : PySem.W.Frag} {H : Hp} {a b : Addr} {ns ms : List Int} {Q : VK} (ha : SqL K H a (ns.map V.int)) (hb : SqL K H b (ms.map V.int)) (e : ns = ms) (q : Q (.bl false) H) : rNeD K (.ref a) (.ref b) H Q := by
  subst e
  exact neD_same (dp_ints ha) (dp_ints hb) (shaped_ints ns) q
/-! ### comprehensions over a list of ints -/
theorem getD_map_int (ns : List Int) (i : Nat) (h : i < ns.length) : (ns.map V.int).getD i .non = .int (ns.getD i 0) := by
  rw [List.getD_eq_getElem?_getD, List.getD_eq_getElem?_getD, List.getElem?_map, List.getElem?_eq_getElem h]
  rfl
theorem range_getD (ns : List Int) : (List.range ns.length).map (fun k => ns.getD k 0) = ns := by
  refine List.ext_getElem (by rw [List.length_map, List.length_range]) fun i h1 h2 => ?_
  rw [List.getElem_map, List.getElem_range, List.getD_eq_getElem?_getD, List.getElem?_eq_getElem h2]
  rfl
theorem given_ints {α : Type} (ns : List Int) (p : Int → Bool) (f : Int → V) : Evl.given ns.length (fun k => p (ns.getD k 0)) (fun k => f (ns.getD k 0)) = (ns.filter p).map f := by
  have e : ns.filter p = ((List.range ns.length).filter fun k => p (ns.getD k 0)).map fun k => ns.getD k 0 := by
    have h := List.filter_map (p := p) (f := fun k => ns.getD k 0) (l := List.range ns.length)
    rw [range_getD] at h
    exact h
  unfold Evl.given
  rw [e, List.map_map]
  rfl
theorem int_at {ns : List Int} {i : Nat} {x : V} (h : (ns.map V.int)[i]? = some x) : i < ns.length ∧ x = .int (ns.getD i 0) ∧ ns.getD i 0 ∈ ns := by
  have hi := (List.getElem?_eq_some_iff.mp h).1
  rw [List.length_map] at hi
  rw [List.getElem?_map, List.getElem?_eq_getElem hi] at h
  rw [List.getD_eq_getElem?_getD, List.getElem?_eq_getElem hi]
  exact ⟨hi, (Option.some.inj h).symm, List.getElem_mem hi⟩
/-- [f(x) for x in xs if p(x)] over a list of ints -/
theorem el_ints {K : PySem.W.Frag} {σ : L2.St} {H : Hp} {tl te : TE} {t : TT} {a : Addr} {ns : List Int} {j : Nat} {vs : List Nat} (p : Int → Bool) (f : Int → V) (h : Evl.Ev tl σ H (.ref a)) (hx : SqL K H a (ns.map V.int)) (hz : ns.length ≤ 40000)
    (hw : ∀ x, wipe ((wipe σ vs).set j (some x)) vs = wipe σ vs) (ht : ∀ x ∈ ns, ∀ H1, Same H H1 → Evl.EvT t ((wipe σ vs).set j (some (.int x))) H1 (p x))
    (he : ∀ x ∈ ns, ∀ H1, Same H H1 → p x = true → Evl.Ev te ((wipe σ vs).set j (some (.int x))) H1 (f x)) : Evl.EvL (tLc (iList K tl) (gName j) t te vs) σ H ((ns.filter p).map f) := by
  rw [← given_ints (α := Unit) ns p f]
  have hl : (ns.map V.int).length = ns.length := List.length_map ..
  rw [← hl]
  refine Evl.el_lcL (fun k => p (ns.getD k 0)) (fun k => f (ns.getD k 0)) h hx (by rw [hl]; exact hz) hw (fun i x H1 e1 hi => ?_) (fun i x H1 e1 hi hp => ?_)
  · obtain ⟨_, rfl, m⟩ := int_at hi
    exact ht _ m H1 e1
  · obtain ⟨_, rfl, m⟩ := int_at hi
    exact he _ m H1 e1 hp
/-- [x for x in xs if p(x)] -/
theorem el_fil {K : PySem.W.Frag} {σ : L2.St} {H : Hp} {tl te : TE} {t : TT} {a : Addr} {ns : List Int} {j : Nat} {vs : List Nat} (p : Int → Bool) (h : Evl.Ev tl σ H (.ref a)) (hx : SqL K H a (ns.map V.int)) (hz : ns.length ≤ 40000)
    (hw : ∀ x, wipe ((wipe σ vs).set j (some x)) vs = wipe σ vs) (ht : ∀ x ∈ ns, ∀ H1, Same H H1 → Evl.EvT t ((wipe σ vs).set j (some (.int x))) H1 (p x))
    (he : ∀ x ∈ ns, ∀ H1, Same H H1 → p x = true → Evl.Ev te ((wipe σ vs).set j (some (.int x))) H1 (.int x)) : Evl.EvL (tLc (iList K tl) (gName j) t te vs) σ H ((ns.filter p).map V.int) := el_ints p V.int h hx hz hw ht he
/-! ### the law's comprehension of what stands on a level -/
def dueQ (s : Int) (f : Nat → Int) (k : Nat) : Bool := decide (V.int (k : Int) = V.int 0) || decide (f (k - 1) / s < f k / s)
theorem due_thinF {s : Int} (hs : 0 < s) {f : Nat → Int} {m : Nat} (hf : ∀ j, j + 1 < m → f j ≤ f (j + 1)) : (Evl.given m (dueQ s f) fun k => V.int (f k)) = (thinF s f m).map V.int := by
  unfold Evl.given thinF
  rw [List.map_map]
  have e1 : (List.range m).filter (dueQ s f) = (List.range m).filter (thinP s f) := by
    refine List.filter_congr fun k hk => ?_
    have hk' := List.mem_range.mp hk
    unfold dueQ thinP
    cases k with
    | zero => rfl
    | succ j =>
      have d1 : decide (V.int ((j + 1 : Nat) : Int) = V.int 0) = false := decide_eq_false fun z => by
        have := V.int.inj z
        omega
      have d2 : decide (j + 1 = 0) = false := rfl
      rw [d1, d2, Bool.false_or, Bool.false_or]
      show decide (f j / s < f (j + 1) / s) = !decide (f j / s = f (j + 1) / s)
      have le : f j / s ≤ f (j + 1) / s := Int.ediv_le_ediv hs (hf j hk')
      by_cases e : f j / s = f (j + 1) / s
      · rw [decide_eq_true e, decide_eq_false (by omega)]
        rfl
      · rw [decide_eq_false e, decide_eq_true (by omega)]
        rfl
  rw [e1]
  rfl
theorem rise_getD {xs : List Int} (h : xs.Pairwise (· < ·)) {i j : Nat} (hij : i < j) (hj : j < xs.length) : xs.getD i 0 < xs.getD j 0 := by
  rw [List.getD_eq_getElem?_getD, List.getD_eq_getElem?_getD, List.getElem?_eq_getElem hj, List.getElem?_eq_getElem (by omega)]
  exact List.pairwise_iff_getElem.mp h i j (by omega) hj hij
/-- the sizes: 1, w, w * w .. -/
def sizes (w : Int) (m : Nat) : List Int := (List.range m).map fun l => w ^ l
theorem sizes_succ (w : Int) (m : Nat) : sizes w (m + 1) = sizes w m ++ [w ^ m] := by
  unfold sizes
  rw [List.range_succ, List.map_append]
  rfl
theorem sizes_len (w : Int) (m : Nat) : (sizes w m).length = m := by
  unfold sizes
  rw [List.length_map, List.length_range]
theorem sizes_lenV (w : Int) (m : Nat) : ((sizes w m).map V.int).length = m := by rw [List.length_map, sizes_len]
theorem sizes_get (w : Int) {m l : Nat} (h : l < m) : ((sizes w m).map V.int)[l]? = some (.int (w ^ l)) := by
  unfold sizes
  rw [List.map_map, List.getElem?_map, List.getElem?_range h]
  rfl
/-- the law's numbers -/
def lawNum (c lim : Int) : Int := if c % 4 = 0 then c / 4 % lim else if c % 4 = 1 then c / 4 % (if 30 < lim then 30 else lim) else if c % 4 = 2 then lim - 1 - c / 4 % (if 30 < lim then 30 else lim) else c / 4 * 48271 % lim
theorem lawNum_in {c lim : Int} (h : 1 ≤ lim) : 0 ≤ lawNum c lim ∧ lawNum c lim < lim := by
  have a1 := Int.emod_nonneg (c / 4) (show lim ≠ 0 by omega)
  have a2 := Int.emod_lt_of_pos (c / 4) (show 0 < lim by omega)
  have b1 := Int.emod_nonneg (c / 4 * 48271) (show lim ≠ 0 by omega)
  have b2 := Int.emod_lt_of_pos (c / 4 * 48271) (show 0 < lim by omega)
  have c0 : 0 < (if 30 < lim then 30 else lim) ∧ (if 30 < lim then 30 else lim) ≤ lim := by split <;> omega
  have c1 := Int.emod_nonneg (c / 4) (show (if 30 < lim then 30 else lim) ≠ 0 by omega)
  have c2 := Int.emod_lt_of_pos (c / 4) c0.1
  unfold lawNum
  split
  · exact ⟨a1, a2⟩
  · split
    · exact ⟨c1, by omega⟩
    · split
      · exact ⟨by omega, by omega⟩
      · exact ⟨b1, b2⟩
theorem iteNT {c A B : Prop} [Decidable c] (hc : ¬ c) (h : A) : if (!decide c) = true then A else B := by
  rw [decide_eq_false hc]
  exact iteT h
theorem depthAll_le {k : Nat} : ∀ {ds : List PyData}, (∀ d ∈ ds, d.depth ≤ k) → PyData.depthAll ds ≤ k
  | [], _ => Nat.zero_le _
  | d :: ds, h => by
    show max d.depth (PyData.depthAll ds) ≤ k
    have h1 := h d List.mem_cons_self
    have h2 := depthAll_le (ds := ds) fun x hx => h x (List.mem_cons_of_mem _ hx)
    omega
theorem canLayAll_of : ∀ {ds : List PyData}, (∀ d ∈ ds, d.canLay0 = true) → PyData.canLayAll0 ds = true
  | [], _ => rfl
  | d :: ds, h => by
    show (d.canLay0 && PyData.canLayAll0 ds) = true
    rw [h d List.mem_cons_self, canLayAll_of fun x hx => h x (List.mem_cons_of_mem _ hx)]
    rfl
theorem shaped_list {ds : List PyData} (k : Nat) (h : ∀ d ∈ ds, d.canLay0 = true ∧ d.depth ≤ k) (hk : k + 1 ≤ 64) : SeqAt.shaped (.list ds) = true := by
  unfold SeqAt.shaped
  have h1 : (PyData.list ds).canLay0 = true := canLayAll_of fun d hd => (h d hd).1
  have h2 : (PyData.list ds).depth ≤ k + 1 := Nat.succ_le_succ (depthAll_le fun d hd => (h d hd).2)
  rw [h1, decide_eq_true (by omega)]
  rfl
/-! ### data that stands in the heap as a whole -/
mutual
inductive Dh (H : Hp) : V → PyData → Prop
  | non : Dh H .non .none
  | bl (b : Bool) : Dh H (.bl b) (.bool b)
  | int (i : Int) : Dh H (.int i) (.int i)
  | lst {a : Addr} {xs : List V} {ds : List PyData} (e : H a = some (.lst xs)) (h : DhAll H xs ds) : Dh H (.ref a) (.list ds)
  | tup {a : Addr} {xs : List V} {ds : List PyData} (e : H a = some (.tup xs)) (h : DhAll H xs ds) : Dh H (.ref a) (.tuple ds)
inductive DhAll (H : Hp) : List V → List PyData → Prop
  | nil : DhAll H [] []
  | cons {v : V} {vs : List V} {d : PyData} {ds : List PyData} (h : Dh H v d) (r : DhAll H vs ds) : DhAll H (v :: vs) (d :: ds)
end
mutual
theorem Dh.dp {K : PySem.W.Frag} {H : Hp} : ∀ {v : V} {d : PyData}, Dh H v d → Dp K H v d
  | _, _, .non => .non
  | _, _, .bl b => .bl b
  | _, _, .int i => .int i
  | _, _, .lst e h => .lst (SqL.of e) h.dp
  | _, _, .tup e h => .tup (SqT.of e) h.dp
theorem DhAll.dp {K : PySem.W.Frag} {H : Hp} : ∀ {vs : List V} {ds : List PyData}, DhAll H vs ds → DpAll K H vs ds
  | _, _, .nil => .nil
  | _, _, .cons h r => .cons h.dp r.dp
end
mutual
theorem Dh.same {H H' : Hp} (s : Same H H') : ∀ {v : V} {d : PyData}, Dh H v d → Dh H' v d
  | _, _, .non => .non
  | _, _, .bl b => .bl b
  | _, _, .int i => .int i
  | _, _, .lst e h => .lst (s _ _ e) (h.same s)
  | _, _, .tup e h => .tup (s _ _ e) (h.same s)
theorem DhAll.same {H H' : Hp} (s : Same H H') : ∀ {vs : List V} {ds : List PyData}, DhAll H vs ds → DhAll H' vs ds
  | _, _, .nil => .nil
  | _, _, .cons h r => .cons (h.same s) (r.same s)
end
theorem dhAll_ints (H : Hp) : ∀ ns : List Int, DhAll H (ns.map V.int) (ns.map PyData.int)
  | [] => .nil
  | _ :: r => .cons (.int _) (dhAll_ints H r)
theorem DhAll.len {H : Hp} : ∀ {vs : List V} {ds : List PyData}, DhAll H vs ds → vs.length = ds.length
  | _, _, .nil => rfl
  | _, _, .cons _ r => congrArg (· + 1) r.len
theorem DhAll.get {H : Hp} : ∀ {vs : List V} {ds : List PyData} {i : Nat} {v : V}, DhAll H vs ds → vs[i]? = some v → ∃ d, ds[i]? = some d ∧ Dh H v d
  | _, _, _, _, .nil, e => by simp at e
  | _, _, 0, _, .cons h _, e => ⟨_, rfl, by
    have e2 := Option.some.inj e
    rw [← e2]
    exact h⟩
  | _, _, i + 1, _, .cons _ r, e => r.get (i := i) e
theorem DhAll.snoc {H : Hp} : ∀ {vs : List V} {ds : List PyData} {v : V} {d : PyData}, DhAll H vs ds → Dh H v d → DhAll H (vs ++ [v]) (ds ++ [d])
  | _, _, _, _, .nil, h => .cons h .nil
  | _, _, _, _, .cons h r, h2 => .cons h (r.snoc h2)
/-- None or a number -/
def oV : Option Int → V
  | none => .non
  | some i => .int i
def dO : Option Int → PyData
  | none => .none
  | some i => .int i
theorem dh_o (H : Hp) : ∀ o : Option Int, Dh H (oV o) (dO o)
  | none => .non
  | some i => .int i
/-! ### what a ladder tells: the mirror -/
/-- what stands on a level -/
def levL (w : Int) (l : Nat) (xs : List Int) : List Int := thinF (w ^ l) (fun k => xs.getD k 0) xs.length
def belowO (xs : List Int) (n : Int) : Option Int := (xs.filter fun x => decide (x < n)).getLast?
def aboveO (xs : List Int) (n : Int) : Option Int := (xs.filter fun x => decide (n < x)).head?
/-- n stands on the level l, the lesser ones of xs being there -/
def onLev (w : Int) (xs : List Int) (n : Int) (l : Nat) : Bool := match belowO xs n with
  | none => true
  | some b => decide (b / w ^ l < n / w ^ l)
/-- who else would stand there for it -/
def mateO (w : Int) (xs : List Int) (n : Int) (l : Nat) : Option Int := match aboveO xs n with
  | none => none
  | some g => if g / w ^ l = n / w ^ l then some g else none
def dCh (l : Nat) (a b : Option Int) : PyData := .tuple [.int (l : Int), dO a, dO b]
def chPut (w : Int) (h : Nat) (xs : List Int) (n : Int) : List PyData := ((List.range (h + 1)).filter (onLev w xs n)).map fun l => dCh l (some n) (mateO w xs n l)
def chTake (w : Int) (h : Nat) (xs : List Int) (n : Int) : List PyData := ((List.range (h + 1)).filter (onLev w xs n)).map fun l => dCh l (mateO w xs n l) (some n)
def insR (n : Int) (xs : List Int) : List Int := (xs.filter fun x => decide (x < n)) ++ n :: xs.filter fun x => decide (n < x)
structure RowOk (w : Int) (h : Nat) (xs : List Int) : Prop where
  w2 : 2 ≤ w
  w9 : w ≤ 9
  h1 : 1 ≤ h
  h12 : h ≤ 12
  rise : xs.Pairwise (· < ·)
  lo : ∀ x ∈ xs, 0 ≤ x
  hi : ∀ x ∈ xs, x < w ^ h
theorem mem_insR {n x : Int} {xs : List Int} : x ∈ insR n xs ↔ x = n ∨ (x ∈ xs ∧ x ≠ n) := by
  unfold insR
  rw [List.mem_append, List.mem_cons, List.mem_filter, List.mem_filter, decide_eq_true_iff, decide_eq_true_iff]
  constructor
  · rintro (⟨h1, h2⟩ | h | ⟨h1, h2⟩)
    · exact .inr ⟨h1, by omega⟩
    · exact .inl h
    · exact .inr ⟨h1, by omega⟩
  · rintro (h | ⟨h1, h2⟩)
    · exact .inr (.inl h)
    · by_cases c : x < n
      · exact .inl ⟨h1, c⟩
      · exact .inr (.inr ⟨h1, by omega⟩)
theorem insR_rise {n : Int} {xs : List Int} (h : xs.Pairwise (· < ·)) : (insR n xs).Pairwise (· < ·) := by
  unfold insR
  rw [List.pairwise_append, List.pairwise_cons]
  refine ⟨h.filter _, ⟨fun y hy => of_decide_eq_true (List.mem_filter.mp hy).2, h.filter _⟩, fun a ha b hb => ?_⟩
  have a1 : a < n := of_decide_eq_true (List.mem_filter.mp ha).2
  rcases List.mem_cons.mp hb with e | hb
  · omega
  · have b1 : n < b := of_decide_eq_true (List.mem_filter.mp hb).2
    omega
theorem RowOk.ins {w : Int} {h : Nat} {xs : List Int} {n : Int} (o : RowOk w h xs) (h0 : 0 ≤ n) (h1 : n < w ^ h) : RowOk w h (insR n xs) :=
  ⟨o.w2, o.w9, o.h1, o.h12, insR_rise o.rise, fun x hx => by
    rcases mem_insR.mp hx with e | ⟨hx, _⟩
    · omega
    · exact o.lo x hx, fun x hx => by
    rcases mem_insR.mp hx with e | ⟨hx, _⟩
    · omega
    · exact o.hi x hx⟩
theorem insR_perm {n : Int} {xs : List Int} (h : n ∉ xs) : (insR n xs).Perm (n :: xs) := by
  unfold insR
  have h1 : (xs.filter fun x => decide (n < x)) = xs.filter fun x => !decide (x < n) := List.filter_congr fun x hx => by
    have : x ≠ n := fun e => h (e ▸ hx)
    by_cases c : x < n
    · rw [decide_eq_true c, decide_eq_false (by omega)]
      rfl
    · rw [decide_eq_false c, decide_eq_true (by omega)]
      rfl
  rw [h1]
  exact List.perm_middle.trans (List.Perm.cons n (List.filter_append_perm _ _))
theorem insR_len {n : Int} {xs : List Int} (h : n ∉ xs) : (insR n xs).length = xs.length + 1 := (insR_perm h).length_eq
def remR (n : Int) (xs : List Int) : List Int := xs.filter fun x => !decide (x = n)
theorem mem_remR {n x : Int} {xs : List Int} : x ∈ remR n xs ↔ x ∈ xs ∧ x ≠ n := by
  unfold remR
  rw [List.mem_filter, Bool.not_eq_true', decide_eq_false_iff_not]
theorem RowOk.rem {w : Int} {h : Nat} {xs : List Int} {n : Int} (o : RowOk w h xs) : RowOk w h (remR n xs) :=
  ⟨o.w2, o.w9, o.h1, o.h12, o.rise.filter _, fun x hx => o.lo x (mem_remR.mp hx).1, fun x hx => o.hi x (mem_remR.mp hx).1⟩
theorem remR_len (n : Int) (xs : List Int) : (remR n xs).length ≤ xs.length := List.length_filter_le _ _
/-! ### the program's ladder, as far as a law asks -/
def methods : List Str := ["put", "take", "has", "row", "level", "ahead", "trail", "below", "above", "place", "at", "way", "stretch", "counted"]
structure Rep (K : PySem.W.Frag) (C : Addr) where
  Lad : Hp → Addr → Int → Nat → List Int → (Addr → Prop) → Prop
  ins : ∀ {H : Hp} {p : Addr} {w : Int} {h : Nat} {xs : List Int} {F : Addr → Prop}, Lad H p w h xs F → ∃ (dx : Addr) (fs : List (Str × V)), H p = some (.ins C dx fs) ∧ fs.lookup ("width" : Str) = some (.int w) ∧ fs.lookup ("high" : Str) = some (.int (h : Int)) ∧
    fs.lookup ("limit" : Str) = some (.int (w ^ h)) ∧ fs.lookup ("many" : Str) = some (.int (xs.length : Int)) ∧ ∀ m ∈ methods, fs.lookup m = none
  ok : ∀ {H : Hp} {p : Addr} {w : Int} {h : Nat} {xs : List Int} {F : Addr → Prop}, Lad H p w h xs F → RowOk w h xs
  stay : ∀ {H H' : Hp} {p : Addr} {w : Int} {h : Nat} {xs : List Int} {F : Addr → Prop}, Lad H p w h xs F → (∀ b o, F b → H b = some o → H' b = some o) → Lad H' p w h xs F
  there : ∀ {H : Hp} {p : Addr} {w : Int} {h : Nat} {xs : List Int} {F : Addr → Prop}, Lad H p w h xs F → ∀ b, F b → ∃ o, H b = some o
theorem Rep.same {K : PySem.W.Frag} {C : Addr} (R : Rep K C) {H H' : Hp} {p : Addr} {w : Int} {h : Nat} {xs : List Int} {F : Addr → Prop} (l : R.Lad H p w h xs F) (s : Same H H') : R.Lad H' p w h xs F := R.stay l fun b o _ e => s b o e
/-- the law's own view G of the heap H, beside the ladder at p -/
structure View {K : PySem.W.Frag} {C : Addr} (R : Rep K C) (G H : Hp) (p : Addr) (w : Int) (h : Nat) (xs : List Int) (F : Addr → Prop) : Prop where
  lad : R.Lad H p w h xs F
  sub : Same G H
  out : ∀ b, F b → G b = none
section
variable {K : PySem.W.Frag} {C : Addr} {R : Rep K C} {G H H' : Hp} {p : Addr} {w : Int} {h : Nat} {xs : List Int} {F : Addr → Prop}
/-- what is new to the heap is none of the ladder's -/
theorem View.notF (v : View R G H p w h xs F) {b : Addr} (n : H b = none) : ¬ F b := fun f => by
  obtain ⟨o, e⟩ := R.there v.lad b f
  rw [n] at e
  cases e
/-- a new object of the law's own -/
theorem View.new (v : View R G H p w h xs F) {b : Addr} {o : HO} (n : H b = none) : View R (upd G b o) (upd H b o) p w h xs F :=
  ⟨R.same v.lad (same_upd n), fun c u e => by
    by_cases hc : c = b
    · subst hc
      rw [upd_same] at e ⊢
      exact e
    · rw [upd_ne hc] at e ⊢
      exact v.sub c u e, fun c f => by
    have hc : c ≠ b := fun z => v.notF n (z ▸ f)
    rw [upd_ne hc]
    exact v.out c f⟩
/-- an object of the law's own is changed -/
theorem View.mut (v : View R G H p w h xs F) {b : Addr} {o u : HO} (e : G b = some u) : View R (upd G b o) (upd H b o) p w h xs F := by
  have nf : ∀ c, F c → c ≠ b := fun c f z => by
    have q := v.out c f
    rw [z, e] at q
    cases q
  refine ⟨R.stay v.lad fun c x f hx => by rw [upd_ne (nf c f)]; exact hx, fun c x hx => ?_, fun c f => by rw [upd_ne (nf c f)]; exact v.out c f⟩
  by_cases hc : c = b
  · subst hc
    rw [upd_same] at hx ⊢
    exact hx
  · rw [upd_ne hc] at hx ⊢
    exact v.sub c x hx
/-- the heap has grown: what of it is seen -/
theorem View.grow (v : View R G H p w h xs F) (s : Same H H') : View R G H' p w h xs F := ⟨R.same v.lad s, v.sub.trans s, v.out⟩
/-- the heap has grown by a new list, which the law keeps -/
theorem View.keep (v : View R G H p w h xs F) (s : Same H H') {b : Addr} {o : HO} (n : H b = none) (e : H' b = some o) : View R (upd G b o) H' p w h xs F :=
  ⟨R.same v.lad s, fun c u hu => by
    by_cases hc : c = b
    · subst hc
      rw [upd_same] at hu
      rw [← hu]
      exact e
    · rw [upd_ne hc] at hu
      exact s c u (v.sub c u hu), fun c f => by
    have hc : c ≠ b := fun z => v.notF n (z ▸ f)
    rw [upd_ne hc]
    exact v.out c f⟩
end
theorem ch_shape (l : Nat) (a b : Option Int) : (dCh l a b).canLay0 = true ∧ (dCh l a b).depth ≤ 1 := by
  cases a <;> cases b <;> exact ⟨rfl, Nat.le_refl _⟩
theorem shaped_chPut (w : Int) (h : Nat) (xs : List Int) (n : Int) : SeqAt.shaped (.list (chPut w h xs n)) = true := shaped_list 1 (fun d hd => by
  obtain ⟨l, _, rfl⟩ := List.mem_map.mp hd
  exact ch_shape _ _ _) (by decide)
theorem shaped_chTake (w : Int) (h : Nat) (xs : List Int) (n : Int) : SeqAt.shaped (.list (chTake w h xs n)) = true := shaped_list 1 (fun d hd => by
  obtain ⟨l, _, rfl⟩ := List.mem_map.mp hd
  exact ch_shape _ _ _) (by decide)
theorem dh_oV {H : Hp} {v : V} : ∀ {o : Option Int}, Dh H v (dO o) → v = oV o
  | none, .non => rfl
  | some _, .int _ => rfl
theorem dh_ch {H : Hp} {v : V} {l : Nat} {a b : Option Int} (h : Dh H v (dCh l a b)) : ∃ t, v = .ref t ∧ H t = some (.tup [.int (l : Int), oV a, oV b]) := by
  unfold dCh at h
  cases h with
  | tup e r =>
    cases r with
    | cons h1 r =>
      cases r with
      | cons h2 r =>
        cases r with
        | cons h3 r =>
          cases r
          cases h1
          rw [dh_oV h2, dh_oV h3] at e
          exact ⟨_, rfl, e⟩
theorem dhAll_ch {H : Hp} (l : Nat) (a b : Option Int) : DhAll H [.int (l : Int), oV a, oV b] [.int (l : Int), dO a, dO b] := .cons (.int _) (.cons (dh_o H a) (.cons (dh_o H b) .nil))
/-- the empty view -/
theorem View.nothing {K : PySem.W.Frag} {C : Addr} {R : Rep K C} {H : Hp} {p : Addr} {w : Int} {h : Nat} {xs : List Int} {F : Addr → Prop} (l : R.Lad H p w h xs F) : View R (fun _ => none) H p w h xs F := ⟨l, (fun _ _ e => nomatch e), fun _ _ => rfl⟩
/-! ### places in a rising row -/
theorem getD_eq {xs : List Int} {i : Nat} (h : i < xs.length) : xs.getD i 0 = xs[i] := by
  rw [List.getD_eq_getElem?_getD, List.getElem?_eq_getElem h]
  rfl
theorem map_at {xs : List Int} {i : Nat} (h : i < xs.length) : (xs.map V.int)[i]? = some (.int (xs.getD i 0)) := by
  rw [List.getElem?_map, List.getElem?_eq_getElem h, getD_eq h]
  rfl
/-- how many are less -/
def placeN (xs : List Int) (y : Int) : Nat := (xs.filter fun x => decide (x < y)).length
theorem filter_take_drop {α : Type} (p : α → Bool) (xs : List α) (i : Nat) (h1 : ∀ x ∈ xs.take i, p x = false) (h2 : ∀ x ∈ xs.drop i, p x = true) : xs.filter p = xs.drop i := by
  have e := List.take_append_drop i xs
  have h3 : (xs.take i).filter p = [] := List.filter_eq_nil_iff.mpr fun x hx => by rw [h1 x hx]; decide
  have h4 : (xs.drop i).filter p = xs.drop i := List.filter_eq_self.mpr h2
  calc xs.filter p = ((xs.take i) ++ xs.drop i).filter p := by rw [e]
    _ = xs.drop i := by rw [List.filter_append, h3, h4, List.nil_append]
theorem filter_take {α : Type} (p : α → Bool) (xs : List α) (i : Nat) (h1 : ∀ x ∈ xs.take i, p x = true) (h2 : ∀ x ∈ xs.drop i, p x = false) : xs.filter p = xs.take i := by
  have e := List.take_append_drop i xs
  have h3 : (xs.drop i).filter p = [] := List.filter_eq_nil_iff.mpr fun x hx => by rw [h2 x hx]; decide
  have h4 : (xs.take i).filter p = xs.take i := List.filter_eq_self.mpr h1
  calc xs.filter p = ((xs.take i) ++ xs.drop i).filter p := by rw [e]
    _ = xs.take i := by rw [List.filter_append, h3, h4, List.append_nil]
theorem mem_take_at {α : Type} {xs : List α} {i : Nat} {x : α} (h : x ∈ xs.take i) : ∃ j, ∃ hj : j < xs.length, j < i ∧ xs[j] = x := by
  obtain ⟨j, hj, e⟩ := List.mem_iff_getElem.mp h
  rw [List.length_take] at hj
  refine ⟨j, by omega, by omega, ?_⟩
  rw [← e, List.getElem_take]
theorem mem_drop_at {α : Type} {xs : List α} {i : Nat} {x : α} (h : x ∈ xs.drop i) : ∃ j, ∃ hj : j < xs.length, i ≤ j ∧ xs[j] = x := by
  obtain ⟨j, hj, e⟩ := List.mem_iff_getElem.mp h
  rw [List.length_drop] at hj
  refine ⟨i + j, by omega, by omega, ?_⟩
  rw [← e, List.getElem_drop]
theorem filt_lt {xs : List Int} (r : xs.Pairwise (· < ·)) {i : Nat} (h : i < xs.length) : (xs.filter fun x => decide (x < xs.getD i 0)) = xs.take i := by
  refine filter_take _ _ _ (fun x hx => ?_) (fun x hx => ?_)
  · obtain ⟨j, hj, l, rfl⟩ := mem_take_at hx
    have := rise_getD r l h
    rw [getD_eq hj] at this
    exact decide_eq_true this
  · obtain ⟨j, hj, l, rfl⟩ := mem_drop_at hx
    refine decide_eq_false ?_
    by_cases e : i = j
    · subst e
      rw [getD_eq hj]
      omega
    · have := rise_getD r (show i < j by omega) hj
      rw [getD_eq hj] at this
      omega
theorem placeN_at {xs : List Int} (r : xs.Pairwise (· < ·)) {i : Nat} (h : i < xs.length) : placeN xs (xs.getD i 0) = i := by
  unfold placeN
  rw [filt_lt r h, List.length_take]
  omega
theorem place_gap (a b : Int) (h : a ≤ b) : ∀ xs : List Int, placeN xs b = placeN xs a + (xs.filter fun x => decide (a ≤ x) && decide (x < b)).length
  | [] => rfl
  | x :: xs => by
    have ih := place_gap a b h xs
    unfold placeN at ih ⊢
    rw [List.filter_cons, List.filter_cons, List.filter_cons]
    by_cases c1 : x < a
    · rw [decide_eq_true (show x < b by omega), decide_eq_true c1, decide_eq_false (show ¬ a ≤ x by omega)]
      simp only [if_true, Bool.false_and, List.length_cons, Bool.false_eq_true, if_false]
      omega
    · by_cases c2 : x < b
      · rw [decide_eq_true c2, decide_eq_false c1, decide_eq_true (show a ≤ x by omega)]
        simp only [if_true, Bool.true_and, List.length_cons, Bool.false_eq_true, if_false]
        omega
      · rw [decide_eq_false c2, decide_eq_false c1, decide_eq_true (show a ≤ x by omega)]
        simp only [Bool.true_and, Bool.false_eq_true, if_false]
        exact ih
theorem place_rest (a : Int) : ∀ xs : List Int, xs.length = placeN xs a + (xs.filter fun x => decide (a ≤ x)).length
  | [] => rfl
  | x :: xs => by
    have ih := place_rest a xs
    unfold placeN at ih ⊢
    rw [List.filter_cons, List.filter_cons, List.length_cons]
    by_cases c1 : x < a
    · rw [decide_eq_true c1, decide_eq_false (show ¬ a ≤ x by omega)]
      simp only [if_true, List.length_cons, Bool.false_eq_true, if_false]
      omega
    · rw [decide_eq_false c1, decide_eq_true (show a ≤ x by omega)]
      simp only [if_true, List.length_cons, Bool.false_eq_true, if_false]
      omega
/-! ### ahead -/
def nextO (w : Int) (l : Nat) (xs : List Int) (n : Int) : Option Int := ((levL w l xs).filter fun x => decide (n < x)).head?
def gapN (w : Int) (l : Nat) (xs : List Int) (n : Int) : Nat := (xs.filter fun x => decide (n ≤ x) && match nextO w l xs n with | none => true | some b => decide (x < b)).length
/-- the places of those that stand on the level -/
def plac (s : Int) (xs : List Int) : List Nat := (List.range xs.length).filter (thinP s fun k => xs.getD k 0)
theorem levL_plac (w : Int) (l : Nat) (xs : List Int) : levL w l xs = (plac (w ^ l) xs).map fun k => xs.getD k 0 := rfl
theorem plac_rise (s : Int) (xs : List Int) : (plac s xs).Pairwise (· < ·) := List.pairwise_lt_range.filter _
theorem plac_lt {s : Int} {xs : List Int} {k : Nat} (h : k ∈ plac s xs) : k < xs.length := List.mem_range.mp (List.mem_filter.mp h).1
theorem filt_gt {ps : List Nat} (r : ps.Pairwise (· < ·)) {k : Nat} (h : k < ps.length) : (ps.filter fun x => decide (ps[k] < x)) = ps.drop (k + 1) := by
  have rr := List.pairwise_iff_getElem.mp r
  refine filter_take_drop _ _ _ (fun x hx => ?_) (fun x hx => ?_)
  · obtain ⟨j, hj, l, rfl⟩ := mem_take_at hx
    refine decide_eq_false ?_
    by_cases e : j = k
    · subst e
      omega
    · have := rr j k hj h (by omega)
      omega
  · obtain ⟨j, hj, l, rfl⟩ := mem_drop_at hx
    exact decide_eq_true (rr k j h hj (by omega))
theorem next_at {w : Int} {l : Nat} {xs : List Int} (r : xs.Pairwise (· < ·)) {k : Nat} (h : k < (plac (w ^ l) xs).length) : nextO w l xs (xs.getD (plac (w ^ l) xs)[k] 0) = ((plac (w ^ l) xs)[k + 1]?).map fun j => xs.getD j 0 := by
  unfold nextO
  rw [levL_plac, List.filter_map]
  have e : ((plac (w ^ l) xs).filter ((fun x => decide (xs.getD (plac (w ^ l) xs)[k] 0 < x)) ∘ fun k => xs.getD k 0)) = (plac (w ^ l) xs).filter fun x => decide ((plac (w ^ l) xs)[k] < x) := by
    refine List.filter_congr fun j hj => ?_
    have lj := plac_lt hj
    have lk := plac_lt (List.getElem_mem h)
    show decide (xs.getD (plac (w ^ l) xs)[k] 0 < xs.getD j 0) = decide ((plac (w ^ l) xs)[k] < j)
    by_cases c : (plac (w ^ l) xs)[k] < j
    · rw [decide_eq_true c, decide_eq_true (rise_getD r c lj)]
    · rw [decide_eq_false c]
      refine decide_eq_false ?_
      by_cases e : j = (plac (w ^ l) xs)[k]
      · rw [← e]
        omega
      · have := rise_getD r (show j < (plac (w ^ l) xs)[k] by omega) lk
        omega
  rw [e, filt_gt (plac_rise _ _) h, List.head?_map, List.head?_drop]
theorem gap_at {w : Int} {l : Nat} {xs : List Int} (r : xs.Pairwise (· < ·)) {k : Nat} (h : k < (plac (w ^ l) xs).length) : (gapN w l xs (xs.getD (plac (w ^ l) xs)[k] 0) : Int) = (match (plac (w ^ l) xs)[k + 1]? with | none => (xs.length : Int) | some j => (j : Int)) - ((plac (w ^ l) xs)[k] : Int) := by
  have lk := plac_lt (List.getElem_mem h)
  unfold gapN
  rw [next_at r h]
  cases hj : (plac (w ^ l) xs)[k + 1]? with
  | none =>
    have e : (xs.filter fun x => decide (xs.getD (plac (w ^ l) xs)[k] 0 ≤ x) && true) = xs.filter fun x => decide (xs.getD (plac (w ^ l) xs)[k] 0 ≤ x) := List.filter_congr fun x _ => Bool.and_true _
    have z := place_rest (xs.getD (plac (w ^ l) xs)[k] 0) xs
    rw [placeN_at r lk] at z
    show ((xs.filter fun x => decide (xs.getD (plac (w ^ l) xs)[k] 0 ≤ x) && true).length : Int) = (xs.length : Int) - ((plac (w ^ l) xs)[k] : Int)
    rw [e]
    omega
  | some j =>
    obtain ⟨h2, e2⟩ := List.getElem?_eq_some_iff.mp hj
    have lj := plac_lt (List.getElem_mem h2)
    have lt := (List.pairwise_iff_getElem.mp (plac_rise (w ^ l) xs)) k (k + 1) h h2 (by omega)
    rw [e2] at lj lt
    have z := place_gap (xs.getD (plac (w ^ l) xs)[k] 0) (xs.getD j 0) (Int.le_of_lt (rise_getD r lt lj)) xs
    rw [placeN_at r lk, placeN_at r lj] at z
    show ((xs.filter fun x => decide (xs.getD (plac (w ^ l) xs)[k] 0 ≤ x) && decide (x < xs.getD j 0)).length : Int) = (j : Int) - ((plac (w ^ l) xs)[k] : Int)
    omega
theorem due_eq {s : Int} (hs : 0 < s) {f : Nat → Int} {m : Nat} (hf : ∀ j, j + 1 < m → f j ≤ f (j + 1)) : (List.range m).filter (dueQ s f) = (List.range m).filter (thinP s f) := by
  refine List.filter_congr fun k hk => ?_
  have hk' := List.mem_range.mp hk
  unfold dueQ thinP
  cases k with
  | zero => rfl
  | succ j =>
    have d1 : decide (V.int ((j + 1 : Nat) : Int) = V.int 0) = false := decide_eq_false fun z => by
      have := V.int.inj z
      omega
    have d2 : decide (j + 1 = 0) = false := rfl
    rw [d1, d2, Bool.false_or, Bool.false_or]
    show decide (f j / s < f (j + 1) / s) = !decide (f j / s = f (j + 1) / s)
    have le : f j / s ≤ f (j + 1) / s := Int.ediv_le_ediv hs (hf j hk')
    by_cases e : f j / s = f (j + 1) / s
    · rw [decide_eq_true e, decide_eq_false (by omega)]
      rfl
    · rw [decide_eq_false e, decide_eq_true (by omega)]
      rfl
/-- natural numbers as values -/
def nV (ps : List Nat) : List V := ps.map fun k : Nat => V.int (k : Int)
theorem nV_len (ps : List Nat) : (nV ps).length = ps.length := List.length_map ..
theorem nV_at {ps : List Nat} {i : Nat} (h : i < ps.length) : (nV ps)[i]? = some (.int (ps[i] : Int)) := by
  unfold nV
  rw [List.getElem?_map, List.getElem?_eq_getElem h]
  rfl
theorem levL_mem {w : Int} {l : Nat} {xs : List Int} {n : Int} (h : n ∈ levL w l xs) : n ∈ xs := by
  rw [levL_plac] at h
  obtain ⟨k, hk, rfl⟩ := List.mem_map.mp h
  have lk := plac_lt hk
  rw [getD_eq lk]
  exact List.getElem_mem lk
/-! ### the trail -/
def goR (ls : List Int) (n a : Int) : List Int := ls.filter fun x => decide (x ≤ n) && decide (a < x)
/-- the places from a on, on the level l and beneath it -/
def trailC (w : Int) (xs : List Int) (n : Int) : Nat → Int → List (Nat × Int)
  | 0, a => (0, a) :: (goR (levL w 0 xs) n a).map fun x => (0, x)
  | l + 1, a => (l + 1, a) :: (goR (levL w (l + 1) xs) n a).map (fun x => (l + 1, x)) ++ trailC w xs n l ((goR (levL w (l + 1) xs) n a).getLast?.getD a)
def downT (w : Int) (xs : List Int) (n : Int) (l : Nat) (a : Int) : List (Nat × Int) := match l with
  | 0 => []
  | l + 1 => trailC w xs n l a
def trailR (w : Int) (h : Nat) (xs : List Int) (n : Int) : List (Nat × Int) := match xs with
  | [] => []
  | x :: _ => if x ≤ n then trailC w xs n h x else []
def stD (s : Nat × Int) : PyData := .tuple [.int (s.1 : Int), .int s.2]
theorem levL_rise {xs : List Int} (r : xs.Pairwise (· < ·)) (w : Int) (l : Nat) : (levL w l xs).Pairwise (· < ·) := by
  rw [levL_plac, List.pairwise_map]
  refine (plac_rise (w ^ l) xs).imp_of_mem fun ha hb h => ?_
  exact rise_getD r h (plac_lt hb)
theorem goR_none {ls : List Int} {n a : Int} (h : (ls.filter fun x => decide (a < x)).head? = none) : goR ls n a = [] := by
  unfold goR
  rw [← List.filter_filter, List.head?_eq_none_iff.mp h]
  rfl
theorem goR_some {ls : List Int} (r : ls.Pairwise (· < ·)) {n a b : Int} (h : (ls.filter fun x => decide (a < x)).head? = some b) : goR ls n a = if b ≤ n then b :: goR ls n b else [] := by
  obtain ⟨rest, e⟩ : ∃ rest, (ls.filter fun x => decide (a < x)) = b :: rest := by
    cases hf : (ls.filter fun x => decide (a < x)) with
    | nil =>
      rw [hf] at h
      cases h
    | cons c rest =>
      rw [hf] at h
      cases h
      exact ⟨rest, rfl⟩
  have ab : a < b := by
    have m : b ∈ (ls.filter fun x => decide (a < x)) := by
      rw [e]
      exact List.mem_cons_self
    exact of_decide_eq_true (List.mem_filter.mp m).2
  have rr : (b :: rest).Pairwise (· < ·) := by
    rw [← e]
    exact r.filter _
  have gr : ∀ x ∈ rest, b < x := (List.pairwise_cons.mp rr).1
  have e2 : (ls.filter fun x => decide (b < x)) = rest := by
    have z : ((ls.filter fun x => decide (a < x)).filter fun x => decide (b < x)) = ls.filter fun x => decide (b < x) := by
      rw [List.filter_filter]
      refine List.filter_congr fun x _ => ?_
      by_cases c : b < x
      · rw [decide_eq_true c, decide_eq_true (show a < x by omega)]
        rfl
      · rw [decide_eq_false c]
        rfl
    rw [← z, e, List.filter_cons, if_neg (by simp), List.filter_eq_self]
    exact fun x hx => decide_eq_true (gr x hx)
  unfold goR
  rw [← List.filter_filter, ← List.filter_filter, e, e2, List.filter_cons]
  by_cases c : b ≤ n
  · rw [if_pos (decide_eq_true c), if_pos c]
  · rw [if_neg (by rw [decide_eq_false c]; decide), if_neg c]
    refine List.filter_eq_nil_iff.mpr fun x hx => ?_
    have := gr x hx
    rw [decide_eq_false (by omega)]
    decide
theorem trailC_step {w : Int} {xs : List Int} (r : xs.Pairwise (· < ·)) (n : Int) (l : Nat) (a : Int) : trailC w xs n l a = (l, a) :: (match nextO w l xs a with
    | none => downT w xs n l a
    | some b => if b ≤ n then trailC w xs n l b else downT w xs n l a) := by
  unfold nextO
  cases h : ((levL w l xs).filter fun x => decide (a < x)).head? with
  | none =>
    have g := goR_none (n := n) h
    cases l with
    | zero =>
      unfold trailC
      rw [g]
      rfl
    | succ l =>
      show (l + 1, a) :: (goR (levL w (l + 1) xs) n a).map (fun x => (l + 1, x)) ++ trailC w xs n l ((goR (levL w (l + 1) xs) n a).getLast?.getD a) = _
      rw [g]
      rfl
  | some b =>
    have g := goR_some (n := n) (levL_rise r w l) h
    show trailC w xs n l a = (l, a) :: if b ≤ n then trailC w xs n l b else downT w xs n l a
    by_cases c : b ≤ n
    · rw [if_pos c] at g ⊢
      cases l with
      | zero =>
        show (0, a) :: (goR (levL w 0 xs) n a).map (fun x => (0, x)) = _
        rw [g]
        rfl
      | succ l =>
        show (l + 1, a) :: (goR (levL w (l + 1) xs) n a).map (fun x => (l + 1, x)) ++ trailC w xs n l ((goR (levL w (l + 1) xs) n a).getLast?.getD a) = (l + 1, a) :: ((l + 1, b) :: (goR (levL w (l + 1) xs) n b).map (fun x => (l + 1, x)) ++ trailC w xs n l ((goR (levL w (l + 1) xs) n b).getLast?.getD b))
        rw [g]
        have e : (b :: goR (levL w (l + 1) xs) n b).getLast?.getD a = (goR (levL w (l + 1) xs) n b).getLast?.getD b := by
          rw [List.getLast?_cons]
          rfl
        rw [e]
        rfl
    · rw [if_neg c] at g ⊢
      cases l with
      | zero =>
        show (0, a) :: (goR (levL w 0 xs) n a).map (fun x => (0, x)) = _
        rw [g]
        rfl
      | succ l =>
        show (l + 1, a) :: (goR (levL w (l + 1) xs) n a).map (fun x => (l + 1, x)) ++ trailC w xs n l ((goR (levL w (l + 1) xs) n a).getLast?.getD a) = _
        rw [g]
        rfl
/-- the next one on a level, by the places -/
theorem nextO_idx {w : Int} {l : Nat} {xs : List Int} (r : xs.Pairwise (· < ·)) {i : Nat} (h : i < xs.length) : nextO w l xs (xs.getD i 0) = (((plac (w ^ l) xs).filter fun k => decide (i < k)).head?).map fun j => xs.getD j 0 := by
  unfold nextO
  rw [levL_plac, List.filter_map]
  have e : ((plac (w ^ l) xs).filter ((fun x => decide (xs.getD i 0 < x)) ∘ fun k => xs.getD k 0)) = (plac (w ^ l) xs).filter fun k => decide (i < k) := by
    refine List.filter_congr fun j hj => ?_
    have lj := plac_lt hj
    show decide (xs.getD i 0 < xs.getD j 0) = decide (i < j)
    by_cases c : i < j
    · rw [decide_eq_true c, decide_eq_true (rise_getD r c lj)]
    · rw [decide_eq_false c]
      refine decide_eq_false ?_
      by_cases e : j = i
      · rw [e]
        omega
      · have := rise_getD r (show j < i by omega) h
        omega
  rw [e, List.head?_map]
/-- the next place whose block is not that of the one ahead of it -/
theorem plac_next {s : Int} {xs : List Int} {i j : Nat} (hij : i < j) (hj : j ≤ xs.length) (h1 : ∀ k, i < k → k < j → xs.getD k 0 / s = xs.getD (k - 1) 0 / s) (h2 : j < xs.length → xs.getD j 0 / s ≠ xs.getD (j - 1) 0 / s) :
    ((plac s xs).filter fun k => decide (i < k)).head? = if j < xs.length then some j else none := by
  unfold plac
  rw [List.filter_filter, List.head?_filter]
  by_cases c : j < xs.length
  · rw [if_pos c, List.find?_range_eq_some]
    refine ⟨?_, List.mem_range.mpr c, fun k hk => ?_⟩
    · have e1 : thinP s (fun k => xs.getD k 0) j = true := by
        unfold thinP
        rw [decide_eq_false (show ¬ j = 0 by omega), Bool.false_or, Bool.not_eq_true', decide_eq_false_iff_not]
        exact fun z => h2 c z.symm
      rw [e1, decide_eq_true hij]
      rfl
    · by_cases d : i < k
      · have e1 : thinP s (fun k => xs.getD k 0) k = false := by
          unfold thinP
          rw [decide_eq_false (show ¬ k = 0 by omega), decide_eq_true (h1 k d hk).symm]
          rfl
        rw [e1, Bool.and_false]
        rfl
      · rw [decide_eq_false d]
        rfl
  · rw [if_neg c, List.find?_eq_none]
    intro k hk
    have hk2 := List.mem_range.mp hk
    by_cases d : i < k
    · have e1 : thinP s (fun k => xs.getD k 0) k = false := by
        unfold thinP
        rw [decide_eq_false (show ¬ k = 0 by omega), decide_eq_true (h1 k d (by omega)).symm]
        rfl
      rw [e1, Bool.and_false]
      decide
    · rw [decide_eq_false d, Bool.false_and]
      decide
/-! ### the nearest -/
def belowEq (xs : List Int) (n : Int) : Option Int := (xs.filter fun x => decide (x ≤ n)).getLast?
def aboveEq (xs : List Int) (n : Int) : Option Int := (xs.filter fun x => decide (n ≤ x)).head?
theorem shaped_trail (ts : List (Nat × Int)) : SeqAt.shaped (.list (ts.map stD)) = true := shaped_list 1 (fun d hd => by
  obtain ⟨s, _, rfl⟩ := List.mem_map.mp hd
  exact ⟨rfl, Nat.le_refl _⟩) (by decide)
theorem dh_st {H : Hp} {v : V} {s : Nat × Int} (h : Dh H v (stD s)) : ∃ t, v = .ref t ∧ H t = some (.tup [.int (s.1 : Int), .int s.2]) := by
  unfold stD at h
  cases h with
  | tup e r =>
    cases r with
    | cons h1 r =>
      cases r with
      | cons h2 r =>
        cases r
        cases h1
        cases h2
        exact ⟨_, rfl, e⟩
/-! ### comprehensions over a list from behind -/
theorem lc_behind {K : PySem.W.Frag} {a : Addr} {xs : List V} {g : TG} {tt : TT} {te : TE} {vs : List Nat} {σ : L2.St} {H1 : Hp} {D : Addr} {Qd : Hp → Prop} (Pv : Nat → Hp → Prop) (start : Pv 0 (upd H1 D (.lst [])))
    (still : ∀ i H, Pv i H → SqL K H a xs)
    (turn : ∀ i x H, i < xs.length → xs[xs.length - 1 - i]? = some x → Pv i H → g x (wipe σ vs) H fun σ2 H2 => wipe σ2 vs = wipe σ vs ∧ tt σ2 H2 fun b H3 =>
      if b = true then te σ2 H3 fun y H4 => ∃ acc, H4 D = some (.lst acc) ∧ acc.length < sizeLine ∧ Pv (i + 1) (upd H4 D (.lst (acc ++ [y]))) else Pv (i + 1) H3) (fin : ∀ H, Pv xs.length H → Qd H) :
    ∃ W : Nat → Nat → Hp → Prop, (∃ m, W 0 m (upd H1 D (.lst []))) ∧ ∀ i m H, W i m H →
      ((Itv K a xs.length).stop i H ∧ Qd H) ∨ ((Itv K a xs.length).go i H ∧ ∃ Nx : Hp → Prop, (∀ H', Nx H' → ∃ m', m' < m ∧ W (i + 1) m' H') ∧ ∀ x H', (Itv K a xs.length).yld i H x H' → g x (wipe σ vs) H' fun σ2 H2 => wipe σ2 vs = wipe σ vs ∧ tt σ2 H2 fun b H3 =>
        if b = true then te σ2 H3 fun y H4 => ∃ acc, H4 D = some (.lst acc) ∧ acc.length < sizeLine ∧ Nx (upd H4 D (.lst (acc ++ [y]))) else Nx H3) := by
  refine ⟨fun i m H => Pv i H ∧ i ≤ xs.length ∧ m + i = xs.length, ⟨xs.length, start, Nat.zero_le _, rfl⟩, fun i m H hW => ?_⟩
  obtain ⟨hp, hi, hm⟩ := hW
  have hq := still i H hp
  rcases Nat.lt_or_ge i xs.length with lt | ge
  · have l2 : xs.length - 1 - i < xs.length := by omega
    exact .inr ⟨⟨lt, xs, xs[xs.length - 1 - i], hq, List.getElem?_eq_getElem l2⟩, Pv (i + 1), fun H' hp' => ⟨m - 1, by omega, hp', by omega, by omega⟩, fun x H' hy => by
      obtain ⟨rfl, fy⟩ := hy
      exact turn i x _ lt (fy xs hq) hp⟩
  · have ei : i = xs.length := by omega
    subst ei
    exact .inl ⟨Nat.le_refl _, fin H hp⟩
/-- [x for x in reversed(xs) if p(x)] over a list of ints -/
theorem el_behind {K : PySem.W.Frag} {σ : L2.St} {H : Hp} {tl te : TE} {t : TT} {a : Addr} {ns : List Int} {j : Nat} {vs : List Nat} (p : Int → Bool) (h : Evl.Ev tl σ H (.ref a)) (hx : SqL K H a (ns.map V.int)) (hz : ns.length ≤ 40000)
    (hw : ∀ x, wipe ((wipe σ vs).set j (some x)) vs = wipe σ vs) (ht : ∀ x ∈ ns, ∀ H1, Same H H1 → Evl.EvT t ((wipe σ vs).set j (some (.int x))) H1 (p x))
    (he : ∀ x ∈ ns, ∀ H1, Same H H1 → p x = true → Evl.Ev te ((wipe σ vs).set j (some (.int x))) H1 (.int x)) : Evl.EvL (tLc (iRev K (tCons tl tNil)) (gName j) t te vs) σ H ((ns.reverse.filter p).map V.int) := by
  rw [← given_ints (α := Unit) ns.reverse p V.int, List.length_reverse]
  have hl : (ns.map V.int).length = ns.length := List.length_map ..
  intro H0 e Q q
  refine h H0 e _ fun H1 e1 => ⟨a, ns.map V.int, rfl, Evl.ex_l (e.trans e1) hx, fun D hD => ?_⟩
  refine lc_behind (Evl.Cw H1 (fun k => p (ns.reverse.getD k 0)) (fun k => V.int (ns.reverse.getD k 0)) D) ⟨hD, Evl.Ex.new hD, upd_same⟩ (fun i H' c => Evl.ex_l ((e.trans e1).trans c.2.1) hx) (fun i x H' lt hi c => ?_) (fun H' c => q D H' (Evl.fresh_back e1 c.1) (e1.trans c.2.1) ?_)
  · rw [hl] at lt hi
    obtain ⟨_, rfl, m⟩ := int_at hi
    have er : ns.reverse.getD i 0 = ns.getD (ns.length - 1 - i) 0 := by
      rw [List.getD_eq_getElem?_getD, List.getD_eq_getElem?_getD, List.getElem?_reverse lt]
    refine ⟨hw _, Evl.cw_turn c (by omega) ?_ ?_⟩
    · show Evl.EvT t _ H1 (p (ns.reverse.getD i 0))
      rw [er]
      exact ht _ m H1 (e.trans e1)
    · intro hf
      show Evl.Ev te _ H1 (V.int (ns.reverse.getD i 0))
      have hf2 : p (ns.reverse.getD i 0) = true := hf
      rw [er] at hf2 ⊢
      exact he _ m H1 (e.trans e1) hf2
  · have z := c.2.2
    rw [hl] at z
    exact z
/-! ### who stands on a level, and what a deed changes there -/
theorem div_le_of {s x y : Int} (hs : 0 < s) (h : x ≤ y) : x / s ≤ y / s := Int.ediv_le_ediv hs h
/-- the least one of its block -/
def Lead (s : Int) (xs : List Int) (x : Int) : Prop := ∀ y ∈ xs, y < x → y / s ≠ x / s
theorem at_of_mem {xs : List Int} {x : Int} (h : x ∈ xs) : ∃ k, k < xs.length ∧ xs.getD k 0 = x := by
  obtain ⟨k, hk, e⟩ := List.mem_iff_getElem.mp h
  exact ⟨k, hk, by rw [getD_eq hk, e]⟩
theorem mem_at {xs : List Int} {k : Nat} (h : k < xs.length) : xs.getD k 0 ∈ xs := by
  rw [getD_eq h]
  exact List.getElem_mem h
theorem rise_idx {xs : List Int} (r : xs.Pairwise (· < ·)) {i j : Nat} (hi : i < xs.length) (hj : j < xs.length) (h : xs.getD i 0 < xs.getD j 0) : i < j := by
  rcases Nat.lt_trichotomy i j with c | c | c
  · exact c
  · subst c
    omega
  · have := rise_getD r c hi
    omega
theorem mem_lev {w : Int} {l : Nat} {xs : List Int} (hw : 2 ≤ w) (r : xs.Pairwise (· < ·)) {x : Int} : x ∈ levL w l xs ↔ x ∈ xs ∧ Lead (w ^ l) xs x := by
  have s0 := pow_pos' hw l
  rw [levL_plac, List.mem_map]
  constructor
  · rintro ⟨k, hk, rfl⟩
    have lk := plac_lt hk
    refine ⟨mem_at lk, fun y hy lt e => ?_⟩
    obtain ⟨j, hj, rfl⟩ := at_of_mem hy
    have jk := rise_idx r hj lk lt
    have tp := (List.mem_filter.mp hk).2
    unfold thinP at tp
    rw [decide_eq_false (show ¬ k = 0 by omega), Bool.false_or, Bool.not_eq_true', decide_eq_false_iff_not] at tp
    have a1 : xs.getD j 0 ≤ xs.getD (k - 1) 0 := by
      by_cases c : j = k - 1
      · rw [c]
        omega
      · exact Int.le_of_lt (rise_getD r (show j < k - 1 by omega) (by omega))
    have a2 : xs.getD (k - 1) 0 ≤ xs.getD k 0 := Int.le_of_lt (rise_getD r (by omega) lk)
    have b1 := div_le_of s0 a1
    have b2 := div_le_of s0 a2
    have tp2 : xs.getD (k - 1) 0 / w ^ l ≠ xs.getD k 0 / w ^ l := tp
    exact tp2 (by omega)
  · rintro ⟨hx, ld⟩
    obtain ⟨k, hk, rfl⟩ := at_of_mem hx
    refine ⟨k, List.mem_filter.mpr ⟨List.mem_range.mpr hk, ?_⟩, rfl⟩
    unfold thinP
    by_cases c : k = 0
    · rw [decide_eq_true c]
      rfl
    · rw [decide_eq_false c, Bool.false_or, Bool.not_eq_true', decide_eq_false_iff_not]
      exact ld _ (mem_at (by omega)) (rise_getD r (show k - 1 < k by omega) hk)
theorem nodup_rise {xs : List Int} (r : xs.Pairwise (· < ·)) : xs.Nodup := r.imp fun h => Int.ne_of_lt h
/-- the greatest below -/
theorem last_max {xs : List Int} (r : xs.Pairwise (· < ·)) {z : Int} (h : xs.getLast? = some z) : z ∈ xs ∧ ∀ y ∈ xs, y ≤ z := by
  obtain ⟨ini, e⟩ := List.getLast?_eq_some_iff.mp h
  subst e
  refine ⟨by simp, fun y hy => ?_⟩
  rcases List.mem_append.mp hy with m | m
  · exact Int.le_of_lt ((List.pairwise_append.mp r).2.2 y m z List.mem_cons_self)
  · rw [List.mem_singleton.mp m]
    omega
theorem head_min {xs : List Int} (r : xs.Pairwise (· < ·)) {z : Int} (h : xs.head? = some z) : z ∈ xs ∧ ∀ y ∈ xs, z ≤ y := by
  cases xs with
  | nil => cases h
  | cons a rest =>
    cases h
    refine ⟨List.mem_cons_self, fun y hy => ?_⟩
    rcases List.mem_cons.mp hy with e | m
    · omega
    · exact Int.le_of_lt ((List.pairwise_cons.mp r).1 y m)
theorem below_spec {xs : List Int} (r : xs.Pairwise (· < ·)) {n b : Int} (h : belowO xs n = some b) : b ∈ xs ∧ b < n ∧ ∀ y ∈ xs, y < n → y ≤ b := by
  obtain ⟨m, mx⟩ := last_max (r.filter _) h
  have m2 := List.mem_filter.mp m
  exact ⟨m2.1, of_decide_eq_true m2.2, fun y hy lt => mx y (List.mem_filter.mpr ⟨hy, decide_eq_true lt⟩)⟩
theorem below_none {xs : List Int} {n : Int} (h : belowO xs n = none) : ∀ y ∈ xs, ¬ y < n := by
  unfold belowO at h
  rw [List.getLast?_eq_none_iff] at h
  exact fun y hy lt => by
    have z : y ∈ xs.filter fun x => decide (x < n) := List.mem_filter.mpr ⟨hy, decide_eq_true lt⟩
    rw [h] at z
    cases z
theorem above_spec {xs : List Int} (r : xs.Pairwise (· < ·)) {n b : Int} (h : aboveO xs n = some b) : b ∈ xs ∧ n < b ∧ ∀ y ∈ xs, n < y → b ≤ y := by
  obtain ⟨m, mx⟩ := head_min (r.filter _) h
  have m2 := List.mem_filter.mp m
  exact ⟨m2.1, of_decide_eq_true m2.2, fun y hy lt => mx y (List.mem_filter.mpr ⟨hy, decide_eq_true lt⟩)⟩
theorem above_none {xs : List Int} {n : Int} (h : aboveO xs n = none) : ∀ y ∈ xs, ¬ n < y := by
  unfold aboveO at h
  rw [List.head?_eq_none_iff] at h
  exact fun y hy lt => by
    have z : y ∈ xs.filter fun x => decide (n < x) := List.mem_filter.mpr ⟨hy, decide_eq_true lt⟩
    rw [h] at z
    cases z
theorem onLev_lead {w : Int} (hw : 2 ≤ w) {xs : List Int} (r : xs.Pairwise (· < ·)) {n : Int} {l : Nat} : onLev w xs n l = true ↔ Lead (w ^ l) xs n := by
  have s0 := pow_pos' hw l
  unfold onLev
  cases h : belowO xs n with
  | none => exact ⟨fun _ y hy lt => absurd lt (below_none h y hy), fun _ => rfl⟩
  | some b =>
    obtain ⟨b1, b2, b3⟩ := below_spec r h
    show decide (b / w ^ l < n / w ^ l) = true ↔ _
    rw [decide_eq_true_iff]
    have c0 := div_le_of s0 (Int.le_of_lt b2)
    refine ⟨fun c y hy lt e => ?_, fun c => ?_⟩
    · have := div_le_of s0 (b3 y hy lt)
      omega
    · have := c b b1 b2
      omega
theorem mate_iff {w : Int} (hw : 2 ≤ w) {xs : List Int} (r : xs.Pairwise (· < ·)) {n x : Int} {l : Nat} (hn : Lead (w ^ l) xs n) (nn : n ∉ xs) : mateO w xs n l = some x ↔ x ∈ levL w l xs ∧ n < x ∧ x / w ^ l = n / w ^ l := by
  have s0 := pow_pos' hw l
  rw [mem_lev hw r]
  unfold mateO
  cases h : aboveO xs n with
  | none => exact ⟨fun z => (nomatch z), fun ⟨⟨m, _⟩, lt, _⟩ => absurd lt (above_none h x m)⟩
  | some g =>
    obtain ⟨g1, g2, g3⟩ := above_spec r h
    show (if g / w ^ l = n / w ^ l then some g else none) = some x ↔ _
    constructor
    · intro z
      by_cases c : g / w ^ l = n / w ^ l
      · rw [if_pos c] at z
        cases z
        refine ⟨⟨g1, fun y hy lt e => ?_⟩, g2, c⟩
        rcases Int.lt_trichotomy y n with c2 | c2 | c2
        · exact hn y hy c2 (by omega)
        · exact nn (c2 ▸ hy)
        · have := g3 y hy c2
          omega
      · rw [if_neg c] at z
        cases z
    · rintro ⟨⟨m, ld⟩, lt, e⟩
      have a1 := g3 x m lt
      have b1 := div_le_of s0 a1
      have b2 := div_le_of s0 (Int.le_of_lt g2)
      have c : g / w ^ l = n / w ^ l := by omega
      rw [if_pos c]
      by_cases d : g = x
      · rw [d]
      · exact absurd (show g / w ^ l = x / w ^ l by omega) (ld g g1 (by omega))
/-- put in: who stands there then -/
theorem lev_put {w : Int} (hw : 2 ≤ w) {xs : List Int} (r : xs.Pairwise (· < ·)) {n x : Int} {l : Nat} (nn : n ∉ xs) : x ∈ levL w l (insR n xs) ↔ if onLev w xs n l = true then x = n ∨ (x ∈ levL w l xs ∧ mateO w xs n l ≠ some x) else x ∈ levL w l xs := by
  have s0 := pow_pos' hw l
  have r2 := insR_rise (n := n) r
  rw [mem_lev hw r2, mem_insR]
  by_cases c : onLev w xs n l = true
  · rw [if_pos c]
    have ld := (onLev_lead hw r).mp c
    constructor
    · rintro ⟨rfl | ⟨m, ne⟩, le⟩
      · exact .inl rfl
      · refine .inr ⟨(mem_lev hw r).mpr ⟨m, fun y hy => le y (mem_insR.mpr (by by_cases e : y = n; exact .inl e; exact .inr ⟨hy, e⟩))⟩, fun z => ?_⟩
        obtain ⟨_, lt, e⟩ := (mate_iff hw r ld nn).mp z
        exact le n (mem_insR.mpr (.inl rfl)) lt e.symm
    · rintro (rfl | ⟨m, ne⟩)
      · refine ⟨.inl rfl, fun y hy lt => ?_⟩
        rcases mem_insR.mp hy with rfl | ⟨hy, _⟩
        · omega
        · exact ld y hy lt
      · have m2 := (mem_lev hw r).mp m
        have xn : x ≠ n := fun z => nn (z ▸ m2.1)
        refine ⟨.inr ⟨m2.1, xn⟩, fun y hy lt => ?_⟩
        rcases mem_insR.mp hy with rfl | ⟨hy, _⟩
        · exact fun e => ne ((mate_iff hw r ld nn).mpr ⟨m, lt, e.symm⟩)
        · exact m2.2 y hy lt
  · rw [if_neg c, mem_lev hw r]
    have nl : ∃ b ∈ xs, b < n ∧ b / w ^ l = n / w ^ l := by
      refine Classical.byContradiction fun z => c ((onLev_lead hw r).mpr fun y hy lt e => z ⟨y, hy, lt, e⟩)
    obtain ⟨b, hb, lb, eb⟩ := nl
    constructor
    · rintro ⟨rfl | ⟨m, ne⟩, le⟩
      · exact absurd eb (le b (mem_insR.mpr (.inr ⟨hb, by omega⟩)) lb)
      · exact ⟨m, fun y hy => le y (mem_insR.mpr (by by_cases e : y = n; exact .inl e; exact .inr ⟨hy, e⟩))⟩
    · rintro ⟨m, le⟩
      have xn : x ≠ n := fun z => nn (z ▸ m)
      refine ⟨.inr ⟨m, xn⟩, fun y hy lt e => ?_⟩
      rcases mem_insR.mp hy with rfl | ⟨hy, _⟩
      · exact le b hb (by omega) (by omega)
      · exact le y hy lt e
theorem rise_ext {xs ys : List Int} (r : xs.Pairwise (· < ·)) (s : ys.Pairwise (· < ·)) (h : ∀ x, x ∈ xs ↔ x ∈ ys) : xs = ys :=
  PySem.W.ksm_same ((List.perm_ext_iff_of_nodup (nodup_rise r) (nodup_rise s)).mpr h) (r.imp fun h => Int.le_of_lt h) (s.imp fun h => Int.le_of_lt h)
theorem ins_rem {xs : List Int} (r : xs.Pairwise (· < ·)) {n : Int} (h : n ∈ xs) : insR n (remR n xs) = xs := rise_ext (insR_rise (r.filter _)) r fun x => by
  rw [mem_insR, mem_remR]
  constructor
  · rintro (rfl | ⟨⟨m, _⟩, _⟩)
    · exact h
    · exact m
  · intro m
    by_cases e : x = n
    · exact .inl e
    · exact .inr ⟨⟨m, e⟩, e⟩
theorem not_rem {xs : List Int} {n : Int} : n ∉ remR n xs := fun z => (mem_remR.mp z).2 rfl
theorem below_rem (xs : List Int) (n : Int) : belowO (remR n xs) n = belowO xs n := by
  unfold belowO remR
  rw [List.filter_filter]
  congr 1
  refine List.filter_congr fun x _ => ?_
  by_cases c : x < n
  · rw [decide_eq_true c, decide_eq_false (show ¬ x = n by omega)]
    rfl
  · rw [decide_eq_false c]
    rfl
theorem above_rem (xs : List Int) (n : Int) : aboveO (remR n xs) n = aboveO xs n := by
  unfold aboveO remR
  rw [List.filter_filter]
  congr 1
  refine List.filter_congr fun x _ => ?_
  by_cases c : n < x
  · rw [decide_eq_true c, decide_eq_false (show ¬ x = n by omega)]
    rfl
  · rw [decide_eq_false c]
    rfl
theorem onLev_rem (w : Int) (xs : List Int) (n : Int) (l : Nat) : onLev w (remR n xs) n l = onLev w xs n l := by
  unfold onLev
  rw [below_rem]
theorem mate_rem (w : Int) (xs : List Int) (n : Int) (l : Nat) : mateO w (remR n xs) n l = mateO w xs n l := by
  unfold mateO
  rw [above_rem]
theorem chTake_eq (w : Int) (h : Nat) (xs : List Int) (n : Int) : chTake w h xs n = ((List.range (h + 1)).filter (onLev w (remR n xs) n)).map fun l => dCh l (mateO w (remR n xs) n l) (some n) := by
  unfold chTake
  have e : onLev w (remR n xs) n = onLev w xs n := funext fun l => onLev_rem w xs n l
  rw [e]
  refine List.map_congr_left fun l _ => ?_
  rw [mate_rem]
/-- a level is the one beneath it, thinned -/
theorem lev_thin {w : Int} (hw : 2 ≤ w) {xs : List Int} (r : xs.Pairwise (· < ·)) (l : Nat) : thinF (w ^ (l + 1)) (fun k => (levL w l xs).getD k 0) (levL w l xs).length = levL w (l + 1) xs := by
  have r1 := levL_rise r w l
  have e : thinF (w ^ (l + 1)) (fun k => (levL w l xs).getD k 0) (levL w l xs).length = levL w (l + 1) (levL w l xs) := rfl
  rw [e]
  refine rise_ext (levL_rise r1 w (l + 1)) (levL_rise r w (l + 1)) fun x => ?_
  rw [mem_lev hw r1, mem_lev hw r, mem_lev hw r]
  have s0 := pow_pos' hw l
  have dd : ∀ y : Int, y / w ^ (l + 1) = y / w ^ l / w := fun y => by rw [Int.pow_succ, Int.ediv_ediv_of_nonneg (Int.le_of_lt s0)]
  constructor
  · rintro ⟨⟨m, l1⟩, l2⟩
    refine ⟨m, fun y hy lt ey => ?_⟩
    -- the least one of y's block
    have key : ∀ (k : Nat) (y : Int), y ∈ xs → y < x → y / w ^ (l + 1) = x / w ^ (l + 1) → (xs.filter fun z => decide (z < y)).length ≤ k → ∃ z, z ∈ xs ∧ Lead (w ^ l) xs z ∧ z < x ∧ z / w ^ (l + 1) = x / w ^ (l + 1) := by
      intro k
      induction k with
      | zero =>
        intro y hy lt ey hk
        refine ⟨y, hy, fun z hz lz => ?_, lt, ey⟩
        have : z ∈ (xs.filter fun z => decide (z < y)) := List.mem_filter.mpr ⟨hz, decide_eq_true lz⟩
        rw [List.length_eq_zero_iff.mp (Nat.le_zero.mp hk)] at this
        cases this
      | succ k ih =>
        intro y hy lt ey hk
        by_cases c : Lead (w ^ l) xs y
        · exact ⟨y, hy, c, lt, ey⟩
        · have : ∃ z ∈ xs, z < y ∧ z / w ^ l = y / w ^ l := Classical.byContradiction fun q => c fun z hz lz e => q ⟨z, hz, lz, e⟩
          obtain ⟨z, hz, lz, ez⟩ := this
          refine ih z hz (by omega) (by rw [dd, ez, ← dd, ey]) ?_
          have sub : ((xs.filter fun q => decide (q < z)).length + 1) ≤ (xs.filter fun q => decide (q < y)).length := by
            have e1 := place_gap z y (Int.le_of_lt lz) xs
            unfold placeN at e1
            have : z ∈ (xs.filter fun q => decide (z ≤ q) && decide (q < y)) := List.mem_filter.mpr ⟨hz, by rw [decide_eq_true (Int.le_refl z), decide_eq_true lz]; rfl⟩
            have := List.length_pos_of_mem this
            omega
          omega
    obtain ⟨z, z1, z2, z3, z4⟩ := key _ y hy lt ey (Nat.le_refl _)
    exact l2 z ((mem_lev hw r).mpr ⟨z1, z2⟩) z3 z4
  · rintro ⟨m, le⟩
    refine ⟨⟨m, fun y hy lt e => le y hy lt (by rw [dd, dd, e])⟩, fun y hy lt => le y ((mem_lev hw r).mp hy).1 lt⟩
theorem lev_zero {w : Int} (hw : 2 ≤ w) {xs : List Int} (r : xs.Pairwise (· < ·)) : levL w 0 xs = xs := rise_ext (levL_rise r w 0) r fun x => by
  rw [mem_lev hw r]
  refine ⟨fun h => h.1, fun h => ⟨h, fun y _ lt => ?_⟩⟩
  rw [Int.pow_zero, Int.ediv_one, Int.ediv_one]
  omega
theorem lev_nil (w : Int) (l : Nat) : levL w l [] = [] := rfl
/-! ### rules: calls in a try, isinstance of the error that is held -/
def tMethS (C : Addr) (m : Str) (sp : Sp) (E : L2.St → XK) (ta : TE) (t : TA) : TE := fun σ H Q => ta σ H fun x H1 => ∃ a dx fs, x = .ref a ∧ H1 a = some (.ins C dx fs) ∧ fs.lookup m = none ∧ t σ H1 fun vs H2 => sp (x :: vs) H2 Q (E σ)
theorem pe_methS {X : Cx} {CX : CXT} {k : Nat} {f C : Addr} {fd : FuncData} {ps : List Str} {sp : Sp} {E : L2.St → XK} {m : Str} {pos apos : Pos} {e o : Expr} {es : List Expr} {ta : TE} {t : TA} {pl : Sem Bool} (he : PE X o ta) (c : Cls X.K C) (hm : Meth X.K C m f)
    (F : FnOk X.prog X.w X.K X.mg X.base CX k f fd ps sp) (hr : Room k X.A) (hb : Binds X.K fd ps []) (hx : ∀ σ, PassesAt CX X σ (E σ)) (ha : PA X (e :: es) t)
    (hst : starEach (e :: es) X.env = (false, eval e X.env) :: starEach es X.env := by rfl) (hpl : (backTo pos (starEach es X.env)).any (·.1) = false := by rfl)
    (ht : eval (.Call (.Attribute o m apos) (e :: es) [] pos) X.env = (do
      let ov ← eval o X.env
      standAt apos.atName
      let (f, first) ← holding [ov] (getMethod ov m pl)
      callWith pos f first (backTo pos (starEach (e :: es) X.env)) (backToKw pos (keywordEach [] X.env))) := by rfl) :
    PE X (.Call (.Attribute o m apos) (e :: es) [] pos) (tMethS C m sp E ta t) := by
  refine ⟨fun pins s σ H Q I h => ?_⟩
  refine PySem.W.methodCall_KW (pl := pl) (thn (he.run pins s σ H _ I h) fun u s1 ⟨x, H1, I1, rx, a, dx, fs, ex, ea, l, q⟩ => ?_) ht
  subst ex
  obtain rfl : u = Value.ref a := rx
  refine getmeth_ok I1 ea c hm l ?_
  refine PySem.W.callWith_K (first := [.ref a]) (h₀ := X.base) I.ok.mod.kin hm.kp (thn (ha.run pos pins s1 σ H1 _ I1 q) fun us s2 ⟨vs, H2, I2, r, q2⟩ => ⟨I2.kIn, ?_⟩) hst hpl
  exact run_fnS (us := .ref a :: us) (vs := .ref a :: vs) F hr hb (hx σ) I2 (.cons rfl r) q2
/-- isinstance(e, c), e the error that the suite holds, whichever class it is of -/
def rIsEx (K : PySem.W.Frag) (cls : Value) (dd : Option Addr) (a : Addr) : List V → Hp → VK → Prop := fun xs H Q => ∃ (D : Addr) (c : V) (cv : Value) (b : Bool), cls = .ref D ∧ dd = none ∧ ExcC K D ∧ xs = [.ref a, c] ∧ (∀ u, RelV c u → u = cv) ∧ PySem.W.kitOne K (.ref D) cv = some b ∧ Q (.bl b) H
theorem call_isEx {X : Cx} {K : PySem.W.Frag} {a : Addr} {cls : Value} {dd : Option Addr} {oe : Obj} {pn : List (Addr × Obj)} (hz : Zc cls dd oe) (hf : ∃ vs, oe.data = .fields vs) (hK : X.K = K := by rfl) : CallR (X.suite a ((a, oe) :: pn)) (.builtin "isinstance") (rIsEx K cls dd a) := by
  subst hK
  intro pins s σ H xs us Q I r h
  obtain ⟨D, c, cv, b, rfl, rfl, hC, rfl, hcv, e, q⟩ := h
  exact call_isE hC hz hf pins s σ H _ us Q I r ⟨c, cv, b, rfl, hcv, e, q⟩
/-! ### a new instance within a try -/
def tMakeS (C : Addr) (sp : Sp) (E : L2.St → XK) (t : TA) : TE := fun σ H Q => t σ H fun vs H1 => ∀ y dy, H1 y = none → H1 dy = none → dy ≠ y → sp (.ref y :: vs) (upd (upd H1 dy (.own y)) y (.ins C dy [])) (fun v H2 => v = .non ∧ Q (.ref y) H2) (E σ)
theorem pe_makeS {X : Cx} {CX : CXT} {k : Nat} {f C : Addr} {fd : FuncData} {ps : List Str} {sp : Sp} {E : L2.St → XK} {x : Str} {p pos : Pos} {e : Expr} {es : List Expr} {t : TA}
    (M : Mk X.K C f) (F : FnOk X.prog X.w X.K X.mg X.base CX k f fd ps sp) (room : Room (k + 1) X.A) (hg : Gl X x) (hm : X.mg x = some (.ref C)) (hb : Binds X.K fd ps []) (lets : ∀ σ, PassesAt CX X σ (E σ)) (ha : PA X (e :: es) t)
    (hdb : (x == ("__debug__" : Str)) = false := by decide) (hst : starEach (e :: es) X.env = (false, eval e X.env) :: starEach es X.env := by rfl) (hpl : (backTo pos (starEach es X.env)).any (·.1) = false := by rfl) :
    PE X (.Call (.Name x p) (e :: es) [] pos) (tMakeS C sp E t) := by
  refine ⟨fun pins s σ H Q I asked => ?_⟩
  have step : ∀ {H1 : Hp} {s1 : Shared} {us : List Value} {vs : List V}, Inv X pins σ H1 s1 → Vals vs us → (∀ y dy, H1 y = none → H1 dy = none → dy ≠ y → sp (.ref y :: vs) (upd (upd H1 dy (.own y)) y (.ins C dy [])) (fun v H2 => v = .non ∧ Q (.ref y) H2) (E σ)) →
      wpAny (model X.prog X.w) X.A (call (.ref C) us) (EP X pins σ Q) X.xe s1 := fun {H1 s1 us vs} I1 r1 h => by
    have want := h (s1.heap.objs.size + 1) s1.heap.objs.size (I1.hok.fresh (Nat.le_succ _)) (I1.hok.fresh (Nat.le_refl _)) (Nat.ne_of_lt (Nat.lt_succ_self _))
    have I2 := Inv.made (C := C) I1
    have r2 : Vals (V.ref (s1.heap.objs.size + 1) :: vs) (Value.ref (s1.heap.objs.size + 1) :: us) := .cons rfl r1
    have len : (Value.ref (s1.heap.objs.size + 1) :: us).length = ps.length := r2.length.symm.trans (F.len _ _ _ _ want)
    have bind := hb _ (Value.ref (s1.heap.objs.size + 1) :: us) I2.kIn (by rw [List.append_nil]; exact len)
    rw [List.append_nil] at bind
    refine wpAny_call (make_map (f := f) I1.kIn M.makes M.init (beq_iff_eq.mp M.fn) (codeAny_mono (F.run _ X.stack _ _ ⟨Value.ref (s1.heap.objs.size + 1) :: us, []⟩ (Value.ref (s1.heap.objs.size + 1) :: us) _ _ (E σ) (room.make C us []) (I2.env0.make C us []) bind r2 want) fun r s' got => ?_))
    match r, got with
    | .error u, got => exact lets σ pins _ _ u s' I2 got
    | .ok (.ret u), got =>
      obtain ⟨v, H', I3, rv, ev, q3⟩ := I2.after got
      subst ev
      exact ⟨rv, ⟨.ref (s1.heap.objs.size + 1), H', I3, rfl, q3⟩⟩
    | .ok .next, got => exact got.elim
    | .ok .brk, got => exact got.elim
    | .ok .cont, got => exact got.elim
  refine wpAny_Call_Name_kw (ld_glob I hg hm ?_ hdb)
  exact PySem.W.callWith_K (h₀ := X.base) I.ok.mod.kin M.kp (thn (ha.run pos pins s σ H _ I asked) fun us s1 ⟨vs, H1, I1, r, q⟩ => ⟨I1.kIn, step I1 r q⟩) hst hpl
/-! ### a try of several clauses, each with the error's name -/
def wAlso (K : PySem.W.Frag) (i : Nat) (out : WX) (D : Ends) : List (Value × (Addr → Value → Option Addr → TS)) → WX
  | [] => out
  | one :: rest => wAs K one.1 i one.2 (wAlso K i out D rest) D
inductive HdsAs (X : Cx) (n : Str) : List ExceptHandler → List (Value × (Addr → Value → Option Addr → TS)) → Prop
  | nil : HdsAs X n [] []
  | cons {x : Str} {c : Value} {ts : Addr → Value → Option Addr → TS} {first : Stmt} {others : List Stmt} {np at' : Pos} {hds : List ExceptHandler} {l : List (Value × (Addr → Value → Option Addr → TS))} (names : Names X x c)
      (does : ∀ (a : Addr) (oe : Obj) (cls : Value) (d : Option Addr) (pn : List (Addr × Obj)), Zc cls d oe → (∃ vs, oe.data = .fields vs) → PSs (X.suite a ((a, oe) :: pn)) (first :: others) (ts a cls d)) (rest : HdsAs X n hds l) :
      HdsAs X n (.ExceptHandler (some (.Name x np)) (some n) (first :: others) at' :: hds) ((c, ts) :: l)
theorem ps_try_manyAs {X : Cx} {n : Str} {i : Nat} {body : List Stmt} {hd0 : ExceptHandler} {hds : List ExceptHandler} {l : List (Value × (Addr → Value → Option Addr → TS))} {pos : Pos} {tb : WX → TS} {out : WX}
    (st : X.stack = X.env :: X.outer) (frm : X.env.frame = some X.env.locals) (nd : X.N.Nodup) (at_i : X.N[i]? = some n) (own : X.env.kindOf n = some .local) (tk : Takes X out)
    (does : ∀ (W : WX) (pn : List (Addr × Obj)) (xe : Value → Shared → Prop), Takes (X.tr pn xe) W → PassesOwn (model X.prog X.w) X.A X.env xe → PSs (X.tr pn xe) body (tb W))
    (all : HdsAs X n (hd0 :: hds) l) : PS X (.Try body (hd0 :: hds) [] [] pos) (fun D σ H => tb (wAlso X.K i out D l) D σ H) := by
  refine ⟨fun pins0 s0 σ0 H0 D I0 asked => ?_⟩
  have okay := I0.ok
  have frames : X.A.frames = some (X.env :: X.outer) := okay.frames.trans (congrArg some st)
  have place : Loc X.env.scope n := .inl own
  refine wpAny_Try_except (wpAny_mono ((does (wAlso X.K i out D l) (X.pn ++ pins0) (fun e s₁ => wpAny (model X.prog X.w) X.A (noteFrame e X.env) (fun _ s₂ => wpAny (model X.prog X.w) X.A (setFlight e none) (fun _ s₃ => wpAny (model X.prog X.w) X.A (handleBy e X.env (hd0 :: hds)) (SP X pins0 D) X.xe s₃) X.xe s₂) X.xe s₁) (fun u thrown flying => ?_) PassesOwn.looking).run [] s0 σ0 H0 D (I0.toTry _) asked) (fun way s1 got => ?_) (fun _ _ same => same))
  · obtain ⟨a, B, sI, pinsB, σB, HB, cls, d, rfl, JB, nb, up, sky, na, os, ag, wish⟩ := flying
    have J0 : Inv X pins0 σB HB sI := JB.ofTry okay
    have skyX : Sky B (X.env :: X.outer) a (Zc cls d) X.env.locals thrown.heap := st ▸ sky
    show wpAny (model X.prog X.w) X.A (noteFrame (Value.ref a) X.env) _ _ _
    refine Sky.land Zc.steady frames frm skyX fun heapA flyA upA => ?_
    have JA : Inv X pins0 σB HB { thrown with heap := heapA } := J0.landed nb flyA.1 (up.trans upA) os ag
    obtain ⟨oA, vsA, atA, zA, dataA⟩ := flyA.there
    have apart : ∀ {hh : Heap} {o : Obj} {vs : Array Value}, hh.FunFrames B (X.env :: X.outer) → hh.get? a = some o → o.data = .fields vs → a ∉ frs (X.env :: X.outer) := fun {hh o vs} ff e dd hm => by
      obtain ⟨_, o2, e2, no⟩ := ff.mem hm
      cases e.symm.trans e2
      exact no _ dd
    have notIn := apart flyA.2.2.1 atA dataA
    have notLoc : a ≠ X.env.locals := fun same => notIn (List.mem_filterMap.mpr ⟨X.env, List.mem_cons_self, by rw [frm, same]⟩)
    have notFs : a ∉ X.fs := fun isIn => by
      obtain ⟨e, he, eq⟩ := List.mem_filterMap.mp isIn
      exact notIn (List.mem_filterMap.mpr ⟨e, List.mem_cons_of_mem _ he, eq⟩)
    have SA := JA.suite atA dataA na notLoc notFs
    have go : ∀ {hds2 : List ExceptHandler} {l2 : List (Value × (Addr → Value → Option Addr → TS))}, HdsAs X n hds2 l2 → wAlso X.K i out D l2 cls d σB HB → wpAny (model X.prog X.w) X.A (handleBy (.ref a) X.env hds2) (SP X pins0 D) X.xe { thrown with heap := heapA } := by
      intro hds2 l2 which
      induction which with
      | nil =>
        intro want
        refine wpAny_handleBy_nil ?_
        obtain ⟨k1, k2, k3, oe, vs, T, oT, tsT, he, hz, dd, h1, hr⟩ := id flyA
        unfold PySem.passOn
        refine wpAny_bind (wpAny_field he dd h1 ?_)
        rw [if_neg (show ¬ (Value.ref T == Value.none) = true by simp)]
        have last : wpAny (model X.prog X.w) X.A (setFlight (Value.ref a) X.env.frame) (fun _ s4 => wpAny (model X.prog X.w) X.A (throw (Value.ref a) : Sem Flow) (SP X pins0 D) X.xe s4) X.xe { thrown with heap := heapA } := by
          rw [frm]
          exact HandSPX.setFlight_upZ flyA fun h4 hh4 up4 => wpAny_throw (tk _ _ ⟨a, B, sI, pins0, σB, HB, cls, d, rfl, J0, nb, (up.trans upA).trans up4, .inr (.inr (by rw [st]; exact hh4)), na, os, ag, want⟩)
        first
          | exact wpAny_bind last
          | exact wpAny_bind (wpAny_pure (wpAny_bind last))
      | @cons x c ts first others np at' hdsR lR names doesR restR ih =>
        rintro ⟨b, isIt, yes, no⟩
        refine wpAny_handleBy_cons (codeAny_handlers_test ?_) (by intro q; cases q)
        have looks : PySem.W.Looks (model X.prog X.w) heapA (typeOf (.ref a)) cls := fun A Q E s k q => wpAny_typeOf_ref (k _ _ atA) (by rw [zA.1]; exact q)
        have matches' := PySem.W.exm_one (M := model X.prog X.w) JA.kIn looks isIt
        have named : ∀ {Q E : Value → Shared → Prop}, Q c { thrown with heap := heapA } → wpAny (model X.prog X.w) (X.A.mark (some (.ref a))) (eval (.Name x np) X.env) Q E { thrown with heap := heapA } := fun {Q E} q => by
          rcases names with ⟨hg, hdbg, hm | ⟨hm, hv, hnn⟩⟩
          · exact ld_glob (X := X.suite a ((a, oA) :: (X.pn ++ pins0))) SA hg hm q hdbg
          · exact ld_blt (X := X.suite a ((a, oA) :: (X.pn ++ pins0))) SA hg hm hv q hnn hdbg
        refine named (matches'.here ?_)
        cases b with
        | false =>
          show wpAny _ X.A (handleBy (.ref a) X.env hdsR) _ _ _
          exact ih (no rfl)
        | true =>
          refine codeAny_handlers_suite_as (HandSPX.lands_againZ flyA fun heapC flyC upC => ?_)
          have JC : Inv X pins0 σB HB { thrown with heap := heapC } := J0.landed nb flyC.1 ((up.trans upA).trans upC) os ag
          obtain ⟨oC, vsC, atC, zC, dataC⟩ := flyC.there
          have SC := JC.suite atC dataC na notLoc notFs
          refine store_ok (X := X.suite a ((a, oC) :: (X.pn ++ pins0))) (v := .ref a) SC nd at_i place rfl (fun s5 S5 => ?_) (.inr own)
          refine wpAny_mono ((doesR a oC cls d (X.pn ++ pins0) zC ⟨_, dataC⟩).run [] s5 _ HB _ S5 (yes rfl a na)) (fun way s6 got => ?_) (fun _ _ z => z.elim)
          have behind : ∀ {σ6 : L2.St} {H6 : Hp} {Q : Shared → Prop}, Inv (X.suite a ((a, oC) :: (X.pn ++ pins0))) [] σ6 H6 s6 → (∀ s7, Inv X pins0 (σ6.set i none) H6 s7 → Q s7) → wpAny (model X.prog X.w) X.A (do bindName X.env n .none; unbindBehindTheSuite X.env n at') (fun _ s7 => Q s7) X.xe s6 := fun S6 hq => gone_ok (S6.unsuite okay) nd at_i own hq
          match way, got with
          | .next, ⟨_, _, S6, q6⟩ => exact behind S6 fun s7 J7 => ⟨_, _, J7, q6⟩
          | .brk, ⟨_, _, S6, q6⟩ => exact behind S6 fun s7 J7 => ⟨_, _, J7, q6⟩
          | .cont, ⟨_, _, S6, q6⟩ => exact behind S6 fun s7 J7 => ⟨_, _, J7, q6⟩
          | .ret u, ⟨_, _, _, S6, r6, q6⟩ => exact behind S6 fun s7 J7 => ⟨_, _, _, J7, r6, q6⟩
    exact go all wish
  · match way, got with
    | .next, ⟨σ2, H2, J2, q2⟩ => exact wpAny_execs_nil ⟨σ2, H2, J2.ofTry okay, q2⟩
    | .brk, ⟨σ2, H2, J2, q2⟩ => exact ⟨σ2, H2, J2.ofTry okay, q2⟩
    | .cont, ⟨σ2, H2, J2, q2⟩ => exact ⟨σ2, H2, J2.ofTry okay, q2⟩
    | .ret u, ⟨v2, σ2, H2, J2, r2, q2⟩ => exact ⟨v2, σ2, H2, J2.ofTry okay, r2, q2⟩
/-! ### sorted(d), d a dict whose keys are whole numbers, any number of them -/
def rSortDA : List V → Hp → VK → Prop := fun xs H Q => ∃ (a : Addr) (kvs : List (Key × V)) (ks : List Int), xs = [.ref a] ∧ Rd H a (.dK kvs) ∧ kvs.map (·.1) = ks.map Sum.inl ∧
  ∀ (ys : List Int) (p : Addr), ys.Perm ks → ys.Pairwise (· ≤ ·) → H p = none → Q (.ref p) (upd H p (.lst (ys.map V.int)))
theorem keys_ints {vs : List (Key × Value)} {ks : List Int} {us : List Value} (hk : vs.map (·.1) = ks.map Sum.inl) (hl : us.length = ks.length)
    (hu : ∀ (j : Nat) (v : Value), us[j]? = some v → ∃ (k : Key) (x : Value), vs[j]? = some (k, x) ∧ keyIs k v = true) : PyProof.Rows.IntsAre us ks := ints_each hl fun j v e => by
  obtain ⟨k, x, m1, m2⟩ := hu j v e
  have m3 : (ks.map Sum.inl)[j]? = some k := hk ▸ (by rw [List.getElem?_map, m1]; rfl)
  rw [List.getElem?_map] at m3
  obtain ⟨y, m4, m5⟩ := Option.map_eq_some_iff.mp m3
  subst m5
  rcases keyIs_shape m2 with ⟨i, t, c1, c2⟩ | ⟨z, t, c1, _⟩
  · exact ⟨y, t, m4, by rw [c2, Sum.inl.inj c1]⟩
  · cases c1
theorem call_sortedDA {X : Cx} (calm : X.calm = true) : CallR X (.builtin "sorted") rSortDA := fun pins s σ H xs us Q I r ⟨a, kvs, ks, ex, hd, hks, q⟩ => by
  subst ex
  obtain ⟨u, eu, rx⟩ := vals1 r
  subst eu
  cases rx
  obtain ⟨room, low, vs, rel, dd⟩ := dk_rd I.hok hd
  obtain ⟨ep, there⟩ := dd.dictAt
  have keys : vs.map (·.1) = ks.map Sum.inl := rel.keys.symm.trans hks
  have many : vs.length = ks.length := by simpa using congrArg List.length keys
  have fits : vs.length ≤ sizeLine := by
    have z := congrArg List.length rel.keys
    rw [List.length_map, List.length_map] at z
    omega
  refine Calls.call_function_entry PyProof.Rows.kind_sorted PyProof.Rows.plain_sorted PyProof.Rows.entry_sorted (PyProof.Rows.args_sorted1 _)
    (wpAny_bind (m := checkCount "sorted" 1 1 _) (wpAny_pure (wpAny_bind (PySem.W.kdu_collect (A := X.A.in1) (PySem.W.kdl_dict (knd := mixKind X.prog X.w) (kvs := vs) (ep := ep) low) (I.ok.hd calm) there fits fun h2 tk acc grown got => ?_))))
  have len : acc.toList.length = ks.length := by rw [Array.length_toList, got.1, many]
  have hin : PyProof.Rows.IntsAre acc.toList ks := keys_ints keys len fun j v e => got.2 j v (by rw [← Array.getElem?_toList]; exact e)
  have fits2 : acc.toList.length ≤ sizeLine := by omega
  have I2 : Inv X pins σ H { s with heap := h2, toks := tk } := I.kept grown
  have laid : (h2.push (PyProof.Rows.seqObj "list" acc.toList.toArray 0)).get? h2.objs.size = some (PyProof.Rows.seqObj "list" acc.toList.toArray 0) := Heap.get?_push_size _ rfl
  refine wpAny_bind (wpAny_newList (show wpAny _ _ _ _ _ { s with heap := h2.push (PyProof.Rows.seqObj "list" acc.toList.toArray 0), toks := tk } from ?_) fits2)
  refine wpAny_bind (wpAny_holding (wpAny_call_entry PyProof.Rows.slot_list_sort ⟨_, laid, rfl⟩ PyProof.Rows.entry_list_sort (SrtO.list_sort_ord SrtO.swo_int laid fits2 (fun two => SrtO.ints_sortable hin two) fun out o1 o2 => ⟨_, rfl, ?_⟩) (PyProof.Rows.args_list_sort _)))
  obtain ⟨k1, k2, k3⟩ := SrtO.ints_out hin o1 o2
  obtain ⟨ep2, at2⟩ := PyProof.Rows.sortedHeap_at (vs := acc.toList) (out := out.toArray) laid
  have fits3 : ((out.map SrtO.iv).map V.int).length ≤ sizeLine := by
    rw [List.length_map, k2.length_eq]
    omega
  refine wpAny_pure ⟨_, rfl, .ref h2.objs.size, upd H h2.objs.size (.lst ((out.map SrtO.iv).map V.int)), I2.laid (t' := tk) (fun b u e => ?_) (Nat.le_refl _) (show ObjOk X.prog X.w _ _ _ (.lst ((out.map SrtO.iv).map V.int)) from ⟨fits3, out, ep2, vals_of_ints k1, at2⟩), rfl, q _ _ k2 k3 (I2.hok.fresh (Nat.le_refl _))⟩
  have lt : b < h2.objs.size := Heap.lt_size e
  have lt2 : b < (h2.push (PyProof.Rows.seqObj "list" acc.toList.toArray 0)).objs.size := Nat.lt_trans lt (Heap.lt_size laid)
  rw [PyProof.Rows.sortedHeap_old (Nat.ne_of_lt lt) lt2]
  exact Heap.get?_push_of_some _ e
/-! ### a dict that keeps numbers, each with True -/
def dkv (ns : List Int) : List (Key × V) := ns.map fun n => (Sum.inl n, V.bl true)
theorem dkv_keys (ns : List Int) : (dkv ns).map (·.1) = ns.map Sum.inl := by
  unfold dkv
  rw [List.map_map]
  rfl
theorem dkv_len (ns : List Int) : (dkv ns).length = ns.length := List.length_map ..
theorem dkv_val (x : Int) : ∀ ns : List Int, (valV (dkv ns) (Sum.inl x)).isSome = decide (x ∈ ns)
  | [] => rfl
  | a :: ns => by
    have ih := dkv_val x ns
    by_cases c : a = x
    · subst c
      show (valV ((Sum.inl a, V.bl true) :: dkv ns) (Sum.inl a)).isSome = _
      rw [valV_pos rfl, decide_eq_true List.mem_cons_self]
      rfl
    · show (valV ((Sum.inl a, V.bl true) :: dkv ns) (Sum.inl x)).isSome = _
      rw [valV_neg (fun z => c (Sum.inl.inj z)), ih]
      have h2 : ¬ x = a := fun z => c z.symm
      simp [h2]
theorem dkv_put {x : Int} {ns : List Int} (h : x ∉ ns) : putK (dkv ns) (Sum.inl x) (.bl true) = dkv (ns ++ [x]) := by
  have hv : valV (dkv ns) (Sum.inl x) = none := by
    have z := dkv_val x ns
    rw [decide_eq_false h] at z
    cases e : valV (dkv ns) (Sum.inl x) with
    | none => rfl
    | some v =>
      rw [e] at z
      cases z
  rw [putK_new _ hv]
  unfold dkv
  rw [List.map_append]
  rfl
theorem dkv_drop (x : Int) (ns : List Int) : dropK (dkv ns) (Sum.inl x) = dkv (ns.filter fun y => !decide (y = x)) := by
  unfold dropK dkv
  rw [List.filter_map]
  congr 1
  refine List.filter_congr fun y _ => ?_
  show decide ((Sum.inl y : Key) ≠ Sum.inl x) = !decide (y = x)
  by_cases c : y = x
  · subst c
    simp
  · have c2 : ¬ (Sum.inl y : Key) = Sum.inl x := fun z => c (Sum.inl.inj z)
    rw [decide_eq_true c2, decide_eq_false c]
    rfl
/-! ### range(a, b, c), c above nought -/
theorem rgc_pos {i j c : Int} (hi : 0 ≤ i ∧ i ≤ 1000) (hj : 0 ≤ j ∧ j ≤ 1000) (hc : 1 ≤ c ∧ c ≤ 1000) :
    RgC i j c (if i < j then (j - i - 1) / c + 1 else 0).toNat ∧ ∀ t : Nat, t < (if i < j then (j - i - 1) / c + 1 else 0).toNat → i + (t : Int) * c < j := by
  have sz : Builtin.Range.rangeSize i j c = if i < j then (j - i - 1) / c + 1 else 0 := by
    unfold Builtin.Range.rangeSize
    rw [if_pos (by omega)]
  have lim : 0 ≤ (if i < j then (j - i - 1) / c + 1 else 0) ∧ (if i < j then (j - i - 1) / c + 1 else 0) ≤ 1001 ∧ (¬ i < j → (if i < j then (j - i - 1) / c + 1 else 0) = 0) := by
    split
    · have a1 := Int.ediv_nonneg (show 0 ≤ j - i - 1 by omega) (show 0 ≤ c by omega)
      have a2 := Int.ediv_le_self c (show 0 ≤ j - i - 1 by omega)
      omega
    · omega
  refine ⟨⟨by omega, by omega, ?_, ?_⟩, fun t ht => ?_⟩
  · unfold Builtin.Range.small
    rw [sz]
    generalize (if i < j then (j - i - 1) / c + 1 else 0) = n at lim
    rw [if_pos (show c > 0 by omega)]
    simp only [Builtin.Range.rangeFitsLong, Bool.and_eq_true, Bool.or_eq_true, decide_eq_true_eq, beq_iff_eq]
    omega
  · rw [sz]
    omega
  · by_cases c1 : i < j
    · rw [if_pos c1] at ht
      have a1 := Int.ediv_mul_le (j - i - 1) (show c ≠ 0 by omega)
      have a2 : (t : Int) ≤ (j - i - 1) / c := by omega
      have a3 := Int.mul_le_mul_of_nonneg_right a2 (show 0 ≤ c by omega)
      omega
    · rw [if_neg c1] at ht
      exact absurd ht (Nat.not_lt_zero t)
theorem dict_m1 {X : Cx} {o : Expr} {m : Str} {apos cpos : Pos} {e : Expr} (base : attributeBase o m X.env (eval o X.env) = eval o X.env := by rfl)
    (few : ((backTo cpos (starEach [e] X.env)).all (fun x => !x.1) && (backToKw cpos (keywordEach [] X.env)).all (fun x => x.1.isSome) && decide (([e] : List Expr).length + ([] : List Keyword).length + (if ([] : List Keyword).isEmpty then 0 else 1) < 30)) = true := by rfl)
    (line : (apos.endLine == cpos.line) = true := by rfl) (trees : backTo cpos (starEach [e] X.env) = [(false, eval e X.env)] := by rfl) : M1 X o m apos e cpos := ⟨base, few, line, trees⟩
/-! ### for i, x in enumerate(xs) -/
theorem for_enumL {K : PySem.W.Frag} {a : Addr} {xs : List V} {g : TG} {tb : TS} {D : Ends} {σ : L2.St} {H : Hp} (Pv : Nat → L2.St → Hp → Prop) (start : Pv 0 σ H) (still : ∀ i σ H, Pv i σ H → SqL K H a xs)
    (turn : ∀ (i : Nat) (x : V) (T : Addr) (σ : L2.St) (H : Hp), xs[i]? = some x → Pv i σ H → H T = none → g (.ref T) σ (upd H T (.tup [.int (i : Nat), x])) fun σ2 H2 => tb { D with nx := Pv (i + 1), ct := Pv (i + 1), bk := D.nx } σ2 H2) (fin : ∀ σ H, Pv xs.length σ H → D.nx σ H) :
    ∃ W : Nat → Nat → L2.St → Hp → Prop, (∃ m, W 0 m σ H) ∧ ∀ i m σ H, W i m σ H →
      ((Ite K a).stop i H ∧ D.nx σ H) ∨ ((Ite K a).go i H ∧ ∃ N : L2.St → Hp → Prop, (∀ σ' H', N σ' H' → ∃ m', m' < m ∧ W (i + 1) m' σ' H') ∧ ∀ v H', (Ite K a).yld i H v H' → g v σ H' fun σ2 H2 => tb { D with nx := N, ct := N, bk := D.nx } σ2 H2) := by
  refine ⟨fun i m σ H => Pv i σ H ∧ i ≤ xs.length ∧ m + i = xs.length, ⟨xs.length, start, Nat.zero_le _, rfl⟩, fun i m σ H hW => ?_⟩
  obtain ⟨hp, hi, hm⟩ := hW
  have hq := still i σ H hp
  rcases Nat.lt_or_ge i xs.length with lt | ge
  · exact .inr ⟨⟨xs, xs[i], hq, List.getElem?_eq_getElem lt⟩, Pv (i + 1), fun σ' H' hp' => ⟨m - 1, by omega, hp', by omega, by omega⟩, fun v H' hy => by
      obtain ⟨T, x, rfl, nT, rfl, fx⟩ := hy
      exact turn i x T σ H (fx xs hq) hp nT⟩
  · have ei : i = xs.length := by omega
    subst ei
    exact .inl ⟨⟨xs, hq, Nat.le_refl _⟩, fin σ H hp⟩
def apartP (w b n : Int) (l : Nat) : Bool := !decide (V.int (b / w ^ l) = V.int (n / w ^ l))
def tallN (w : Int) (h : Nat) (b n : Int) : Nat := (List.range (h + 1)).countP (apartP w b n)
def tallO (w : Int) (h : Nat) (b : Option Int) (n : Int) : Int := match b with
  | none => (h : Int) + 1
  | some b => (tallN w h b n : Int)
def sp_tall (_ : PySem.W.Frag) : Sp := fun vs H Q _ => ∃ (wd : Int) (h : Nat) (b : Option Int) (n : Int), vs = [.int wd, .int (h : Int), oV b, .int n] ∧ 2 ≤ wd ∧ wd ≤ 9 ∧ h ≤ 12 ∧ Q (.int (tallO wd h b n)) H
/-! the mathematics -/
theorem countP_succ (p : Nat → Bool) (i : Nat) : (List.range (i + 1)).countP p = (List.range i).countP p + if p i = true then 1 else 0 := by
  rw [List.range_succ, List.countP_append, List.countP_cons, List.countP_nil]
  simp
theorem apart_down {w b n : Int} (l : Nat) (h : apartP w b n (l + 1) = true) (hw : 2 ≤ w) : apartP w b n l = true := by
  unfold apartP at *
  rw [Bool.not_eq_true', decide_eq_false_iff_not] at *
  intro e
  apply h
  have e1 := V.int.inj e
  have p := pow_pos' hw l
  rw [Int.pow_succ, ← Int.ediv_ediv_of_nonneg (by omega), ← Int.ediv_ediv_of_nonneg (by omega), e1]
theorem down_all {p : Nat → Bool} (hp : ∀ l, p (l + 1) = true → p l = true) : ∀ {m : Nat}, p m = true → ∀ l, l ≤ m → p l = true
  | 0, h, l, hl => by
    rw [show l = 0 by omega]
    exact h
  | m + 1, h, l, hl => by
    by_cases e : l = m + 1
    · rw [e]
      exact h
    · exact down_all hp (hp m h) l (by omega)
theorem filter_down {p : Nat → Bool} (hp : ∀ l, p (l + 1) = true → p l = true) : ∀ m : Nat, (List.range m).filter p = List.range ((List.range m).countP p)
  | 0 => rfl
  | m + 1 => by
    by_cases h : p m = true
    · have ha : ∀ l ∈ List.range (m + 1), p l = true := fun l hl => down_all hp h l (by have := List.mem_range.mp hl; omega)
      have h1 : (List.range (m + 1)).filter p = List.range (m + 1) := List.filter_eq_self.mpr ha
      have h2 : (List.range (m + 1)).countP p = (List.range (m + 1)).length := List.countP_eq_length.mpr ha
      rw [h1, h2, List.length_range]
    · rw [countP_succ, if_neg h, List.range_succ, List.filter_append, filter_down hp m]
      have h3 : [m].filter p = [] := by
        rw [List.filter_cons, if_neg h]
        rfl
      rw [h3, List.append_nil, Nat.add_zero]
/-! ### the row, cut where a number is or would be -/
theorem filt_place {n : Int} : ∀ {xs : List Int}, xs.Pairwise (· < ·) → (xs.filter fun x => decide (x < n)) = xs.take (placeN xs n)
  | [], _ => rfl
  | x :: xs, r => by
    have rr := List.pairwise_cons.mp r
    have ih := filt_place (n := n) rr.2
    unfold placeN at ih ⊢
    by_cases c : x < n
    · rw [List.filter_cons, if_pos (decide_eq_true c), List.length_cons, List.take_succ_cons, ← ih]
    · have e : ((x :: xs).filter fun x => decide (x < n)) = [] := List.filter_eq_nil_iff.mpr fun y hy => by
        rcases List.mem_cons.mp hy with z | z
        · rw [z, decide_eq_false c]
          decide
        · have := rr.1 y z
          rw [decide_eq_false (by omega)]
          decide
      rw [e]
      rfl
theorem filt_place_ge {n : Int} : ∀ {xs : List Int}, xs.Pairwise (· < ·) → (xs.filter fun x => decide (n ≤ x)) = xs.drop (placeN xs n)
  | [], _ => rfl
  | x :: xs, r => by
    have rr := List.pairwise_cons.mp r
    have ih := filt_place_ge (n := n) rr.2
    by_cases c : x < n
    · have e : placeN (x :: xs) n = placeN xs n + 1 := by
        unfold placeN
        rw [List.filter_cons, if_pos (decide_eq_true c), List.length_cons]
      rw [e, List.drop_succ_cons, ← ih, List.filter_cons, if_neg]
      rw [decide_eq_false (by omega)]
      decide
    · have e : placeN (x :: xs) n = 0 := by
        unfold placeN
        rw [List.length_eq_zero_iff, List.filter_eq_nil_iff]
        intro y hy
        rcases List.mem_cons.mp hy with z | z
        · rw [z, decide_eq_false c]
          decide
        · have := rr.1 y z
          rw [decide_eq_false (by omega)]
          decide
      rw [e, List.drop_zero, List.filter_eq_self]
      intro y hy
      rcases List.mem_cons.mp hy with z | z
      · rw [z]
        exact decide_eq_true (by omega)
      · have := rr.1 y z
        exact decide_eq_true (by omega)
theorem placeN_le (xs : List Int) (n : Int) : placeN xs n ≤ xs.length := List.length_filter_le _ _
/-- the greatest one that is less -/
theorem belowO_at {xs : List Int} (r : xs.Pairwise (· < ·)) (n : Int) : belowO xs n = if placeN xs n = 0 then none else xs[placeN xs n - 1]? := by
  have hl := placeN_le xs n
  unfold belowO
  rw [filt_place r]
  split
  · rename_i e
    rw [e]
    rfl
  · rename_i e
    rw [List.getLast?_eq_getElem?, List.length_take, Nat.min_eq_left hl, List.getElem?_take, if_pos (by omega)]
theorem aboveEq_at {xs : List Int} (r : xs.Pairwise (· < ·)) (n : Int) : (xs.filter fun x => decide (n ≤ x)).head? = xs[placeN xs n]? := by
  rw [filt_place_ge r, List.head?_drop]
theorem at_place {xs : List Int} (r : xs.Pairwise (· < ·)) {n : Int} (h : n ∈ xs) : xs[placeN xs n]? = some n := by
  obtain ⟨k, hk, e⟩ := List.mem_iff_getElem.mp h
  have e2 : xs.getD k 0 = n := by rw [getD_eq hk, e]
  have z := placeN_at r hk
  rw [e2] at z
  rw [z, List.getElem?_eq_getElem hk, e]
theorem place_lt {xs : List Int} (r : xs.Pairwise (· < ·)) {n : Int} (h : n ∈ xs) : placeN xs n < xs.length := (List.getElem?_eq_some_iff.mp (at_place r h)).1
/-- the least one that is greater than a kept one -/
theorem aboveO_at {xs : List Int} (r : xs.Pairwise (· < ·)) {n : Int} (h : n ∈ xs) : aboveO xs n = xs[placeN xs n + 1]? := by
  unfold aboveO
  have e : (xs.filter fun x => decide (n < x)) = (xs.filter fun x => decide (n ≤ x)).filter fun x => decide (n < x) := by
    rw [List.filter_filter]
    refine List.filter_congr fun x _ => ?_
    by_cases c : n < x
    · rw [decide_eq_true c, decide_eq_true (show n ≤ x by omega)]
      rfl
    · rw [decide_eq_false c]
      rfl
  have hk := place_lt r h
  have h1 : xs.drop (placeN xs n) = n :: xs.drop (placeN xs n + 1) := by
    rw [List.drop_eq_getElem_cons hk]
    have z := at_place r h
    rw [List.getElem?_eq_getElem hk] at z
    rw [Option.some.inj z]
  have rr : (n :: xs.drop (placeN xs n + 1)).Pairwise (· < ·) := by
    rw [← h1]
    exact r.sublist (List.drop_sublist _ _)
  rw [e, filt_place_ge r, h1, List.filter_cons, if_neg (by rw [decide_eq_false (by omega)]; decide), List.filter_eq_self.mpr fun x hx => decide_eq_true ((List.pairwise_cons.mp rr).1 x hx), List.head?_drop]
/-! ### on how many levels a number stands -/
def cntN (w : Int) (h : Nat) (xs : List Int) (n : Int) : Nat := match belowO xs n with
  | none => h + 1
  | some b => tallN w h b n
theorem tallO_cnt (w : Int) (h : Nat) (xs : List Int) (n : Int) : tallO w h (belowO xs n) n = (cntN w h xs n : Int) := by
  unfold tallO cntN
  cases belowO xs n with
  | none => exact (Int.natCast_succ h).symm
  | some b => rfl
theorem tallN_le (w : Int) (h : Nat) (b n : Int) : tallN w h b n ≤ h + 1 := by
  have := List.countP_le_length (p := apartP w b n) (l := List.range (h + 1))
  rw [List.length_range] at this
  exact this
theorem cntN_le (w : Int) (h : Nat) (xs : List Int) (n : Int) : cntN w h xs n ≤ h + 1 := by
  unfold cntN
  cases belowO xs n with
  | none => exact Nat.le_refl _
  | some b => exact tallN_le w h b n
theorem lt_count {p : Nat → Bool} (hp : ∀ l, p (l + 1) = true → p l = true) {m l : Nat} (h : l < m) : l < (List.range m).countP p ↔ p l = true := by
  have e := filter_down hp m
  have z : l ∈ (List.range m).filter p ↔ l ∈ List.range ((List.range m).countP p) := by rw [e]
  rw [List.mem_filter, List.mem_range, List.mem_range] at z
  exact ⟨fun a => (z.mpr a).2, fun a => z.mp ⟨h, a⟩⟩
theorem apart_iff {w b n : Int} {l : Nat} : apartP w b n l = true ↔ b / w ^ l ≠ n / w ^ l := by
  unfold apartP
  rw [Bool.not_eq_true', decide_eq_false_iff_not]
  exact ⟨fun a e => a (congrArg V.int e), fun a e => a (V.int.inj e)⟩
theorem onLev_cnt {w : Int} (hw : 2 ≤ w) (h : Nat) (xs : List Int) (n : Int) : (List.range (h + 1)).filter (onLev w xs n) = List.range (cntN w h xs n) := by
  unfold cntN
  cases hb : belowO xs n with
  | none =>
    refine List.filter_eq_self.mpr fun l _ => ?_
    unfold onLev
    rw [hb]
  | some b =>
    have lt : b < n := by
      unfold belowO at hb
      obtain ⟨ini, e⟩ := List.getLast?_eq_some_iff.mp hb
      have m : b ∈ (xs.filter fun x => decide (x < n)) := by
        rw [e]
        simp
      exact of_decide_eq_true (List.mem_filter.mp m).2
    have e := filter_down (p := apartP w b n) (fun l hl => apart_down l hl hw) (h + 1)
    show _ = List.range ((List.range (h + 1)).countP (apartP w b n))
    rw [← e]
    refine List.filter_congr fun l _ => ?_
    have le : b / w ^ l ≤ n / w ^ l := Int.ediv_le_ediv (pow_pos' hw l) (by omega)
    have e1 : onLev w xs n l = decide (b / w ^ l < n / w ^ l) := by
      unfold onLev
      rw [hb]
    rw [e1]
    by_cases c : b / w ^ l = n / w ^ l
    · have z : ¬ apartP w b n l = true := fun a => (apart_iff.mp a) c
      rw [Bool.not_eq_true] at z
      rw [z, decide_eq_false (by omega)]
    · rw [apart_iff.mpr c, decide_eq_true (by omega)]
theorem mateO_none {w : Int} {xs : List Int} {n : Int} (h : aboveO xs n = none) (l : Nat) : mateO w xs n l = none := by
  unfold mateO
  rw [h]
theorem mateO_some {w : Int} (hw : 2 ≤ w) {xs : List Int} {n a : Int} (h : aboveO xs n = some a) {hh l : Nat} (hl : l < hh + 1) : mateO w xs n l = if l < tallN w hh n a then none else some a := by
  have z := lt_count (p := apartP w n a) (fun l hl => apart_down l hl hw) hl
  unfold mateO
  rw [h]
  show (if a / w ^ l = n / w ^ l then some a else none) = _
  by_cases c : l < tallN w hh n a
  · have c2 := apart_iff.mp (z.mp c)
    rw [if_pos c, if_neg fun e => c2 e.symm]
  · rw [if_neg c]
    by_cases e : a / w ^ l = n / w ^ l
    · rw [if_pos e]
    · exact absurd (z.mpr (apart_iff.mpr fun q => e q.symm)) c
/-- who else stands there, level by level -/
def heirL (w : Int) (h : Nat) (xs : List Int) (n : Int) : List V := (List.range (cntN w h xs n)).map fun l => oV (mateO w xs n l)
theorem heirL_len (w : Int) (h : Nat) (xs : List Int) (n : Int) : (heirL w h xs n).length = cntN w h xs n := by
  unfold heirL
  rw [List.length_map, List.length_range]
theorem heirL_at {w : Int} {h : Nat} {xs : List Int} {n : Int} {i : Nat} {x : V} (e : (heirL w h xs n)[i]? = some x) : x = oV (mateO w xs n i) := by
  unfold heirL at e
  rw [List.getElem?_map] at e
  obtain ⟨j, hj, rfl⟩ := Option.map_eq_some_iff.mp e
  obtain ⟨h1, h2⟩ := List.getElem?_eq_some_iff.mp hj
  rw [List.getElem_range] at h2
  rw [h2]
theorem chPut_cnt {w : Int} (hw : 2 ≤ w) (h : Nat) (xs : List Int) (n : Int) : chPut w h xs n = (List.range (cntN w h xs n)).map fun l => dCh l (some n) (mateO w xs n l) := by
  unfold chPut
  rw [onLev_cnt hw]
theorem chTake_cnt {w : Int} (hw : 2 ≤ w) (h : Nat) (xs : List Int) (n : Int) : chTake w h xs n = (List.range (cntN w h xs n)).map fun l => dCh l (mateO w xs n l) (some n) := by
  unfold chTake
  rw [onLev_cnt hw]
/-! ### a number put in, taken out, in the row -/
theorem insR_below (n : Int) (xs : List Int) : belowO (insR n xs) n = belowO xs n := by
  unfold belowO insR
  rw [List.filter_append, List.filter_filter, List.filter_cons, if_neg (by simp), List.filter_filter]
  have e1 : (xs.filter fun a => decide (a < n) && decide (a < n)) = xs.filter fun a => decide (a < n) := List.filter_congr fun x _ => Bool.and_self _
  have e2 : (xs.filter fun a => decide (a < n) && decide (n < a)) = [] := List.filter_eq_nil_iff.mpr fun x _ => by
    rw [Bool.and_eq_true, decide_eq_true_iff, decide_eq_true_iff]
    omega
  rw [e1, e2, List.append_nil]
theorem insR_above (n : Int) (xs : List Int) : aboveO (insR n xs) n = aboveO xs n := by
  unfold aboveO insR
  rw [List.filter_append, List.filter_filter, List.filter_cons, if_neg (by simp), List.filter_filter]
  have e1 : (xs.filter fun a => decide (n < a) && decide (n < a)) = xs.filter fun a => decide (n < a) := List.filter_congr fun x _ => Bool.and_self _
  have e2 : (xs.filter fun a => decide (n < a) && decide (a < n)) = [] := List.filter_eq_nil_iff.mpr fun x _ => by
    rw [Bool.and_eq_true, decide_eq_true_iff, decide_eq_true_iff]
    omega
  rw [e1, e2, List.nil_append]
theorem insR_mate (w n : Int) (xs : List Int) (l : Nat) : mateO w (insR n xs) n l = mateO w xs n l := by
  unfold mateO
  rw [insR_above]
theorem insR_cnt (w : Int) (h : Nat) (n : Int) (xs : List Int) : cntN w h (insR n xs) n = cntN w h xs n := by
  unfold cntN
  rw [insR_below]
/-- the row with the number put where it belongs -/
theorem insR_at {n : Int} {xs : List Int} (r : xs.Pairwise (· < ·)) (h : n ∉ xs) : xs.take (placeN xs n) ++ [n] ++ xs.drop (placeN xs n) = insR n xs := by
  unfold insR
  rw [filt_place r, ← filt_place_ge r, List.append_assoc]
  have e : (xs.filter fun x => decide (n ≤ x)) = xs.filter fun x => decide (n < x) := List.filter_congr fun x hx => by
    have : x ≠ n := fun e => h (e ▸ hx)
    by_cases c : n < x
    · rw [decide_eq_true c, decide_eq_true (by omega)]
    · rw [decide_eq_false c, decide_eq_false (by omega)]
  rw [e]
  rfl
/-- the row with the number taken out -/
theorem remR_at {n : Int} {xs : List Int} (r : xs.Pairwise (· < ·)) (h : n ∈ xs) : xs.eraseIdx (placeN xs n) = remR n xs := by
  have hk := place_lt r h
  have h1 : xs[placeN xs n] = n := by
    have z := at_place r h
    rw [List.getElem?_eq_getElem hk] at z
    exact Option.some.inj z
  unfold remR
  rw [List.eraseIdx_eq_take_drop_succ]
  have e := List.take_append_drop (placeN xs n) xs
  have r2 : xs = xs.take (placeN xs n) ++ (n :: xs.drop (placeN xs n + 1)) := by
    have z := List.drop_eq_getElem_cons hk
    rw [h1] at z
    rw [← z, e]
  have rp : (xs.take (placeN xs n) ++ (n :: xs.drop (placeN xs n + 1))).Pairwise (· < ·) := by
    rw [← r2]
    exact r
  have rq := List.pairwise_append.mp rp
  have f1 : (xs.take (placeN xs n)).filter (fun x => !decide (x = n)) = xs.take (placeN xs n) := List.filter_eq_self.mpr fun x hx => by
    have := rq.2.2 x hx n List.mem_cons_self
    rw [Bool.not_eq_true', decide_eq_false_iff_not]
    omega
  have f2 : (xs.drop (placeN xs n + 1)).filter (fun x => !decide (x = n)) = xs.drop (placeN xs n + 1) := List.filter_eq_self.mpr fun x hx => by
    have := (List.pairwise_cons.mp rq.2.1).1 x hx
    rw [Bool.not_eq_true', decide_eq_false_iff_not]
    omega
  calc xs.take (placeN xs n) ++ xs.drop (placeN xs n + 1) = (xs.take (placeN xs n) ++ (n :: xs.drop (placeN xs n + 1))).filter (fun x => !decide (x = n)) := by
        rw [List.filter_append, List.filter_cons, if_neg (by simp), f1, f2]
    _ = xs.filter (fun x => !decide (x = n)) := by rw [← r2]
/-! the promises of the blocks -/
def sp_power (_ : PySem.W.Frag) : Sp := fun vs H Q _ => ∃ (wd : Int) (l : Nat), vs = [.int wd, .int (l : Int)] ∧ 2 ≤ wd ∧ wd ≤ 9 ∧ l ≤ 12 ∧ Q (.int (wd ^ l)) H
def sp_block (_ : PySem.W.Frag) : Sp := fun vs H Q _ => ∃ (wd : Int) (l : Nat) (n : Int), vs = [.int wd, .int (l : Int), .int n] ∧ 2 ≤ wd ∧ wd ≤ 9 ∧ l ≤ 12 ∧ Q (.int (n / wd ^ l)) H
/-- a field of an instance that is there -/
theorem ev_fld {K : PySem.W.Frag} {te : TE} {σ : L2.St} {H : Hp} {a C dx : Addr} {fs : List (Str × V)} {f : Str} {v : V} (h : Evl.Ev te σ H (.ref a)) (hp : H a = some (.ins C dx fs)) (c : Cls K C) (n : NoAttr K C f) (l : fs.lookup f = some v) : Evl.Ev (tFld K te f) σ H v := fun H1 e Q q =>
  h H1 e _ fun H2 e2 => ⟨a, C, dx, fs, v, rfl, e2 _ _ (e _ _ hp), c, n, l, q H2 e2⟩
/-- a comprehension over enumerate(xs) -/
theorem lc_enumL {K : PySem.W.Frag} {a : Addr} {xs : List V} {g : TG} {tt : TT} {te : TE} {vs : List Nat} {σ : L2.St} {H1 : Hp} {D : Addr} {Qd : Hp → Prop} (Pv : Nat → Hp → Prop) (start : Pv 0 (upd H1 D (.lst [])))
    (still : ∀ i H, Pv i H → SqL K H a xs)
    (turn : ∀ (i : Nat) (x : V) (T : Addr) (H : Hp), xs[i]? = some x → Pv i H → H T = none → g (.ref T) (wipe σ vs) (upd H T (.tup [.int (i : Nat), x])) fun σ2 H2 => wipe σ2 vs = wipe σ vs ∧ tt σ2 H2 fun b H3 =>
      if b = true then te σ2 H3 fun y H4 => ∃ acc, H4 D = some (.lst acc) ∧ acc.length < sizeLine ∧ Pv (i + 1) (upd H4 D (.lst (acc ++ [y]))) else Pv (i + 1) H3) (fin : ∀ H, Pv xs.length H → Qd H) :
    ∃ W : Nat → Nat → Hp → Prop, (∃ m, W 0 m (upd H1 D (.lst []))) ∧ ∀ i m H, W i m H →
      ((Ite K a).stop i H ∧ Qd H) ∨ ((Ite K a).go i H ∧ ∃ Nx : Hp → Prop, (∀ H', Nx H' → ∃ m', m' < m ∧ W (i + 1) m' H') ∧ ∀ x H', (Ite K a).yld i H x H' → g x (wipe σ vs) H' fun σ2 H2 => wipe σ2 vs = wipe σ vs ∧ tt σ2 H2 fun b H3 =>
        if b = true then te σ2 H3 fun y H4 => ∃ acc, H4 D = some (.lst acc) ∧ acc.length < sizeLine ∧ Nx (upd H4 D (.lst (acc ++ [y]))) else Nx H3) := by
  refine ⟨fun i m H => Pv i H ∧ i ≤ xs.length ∧ m + i = xs.length, ⟨xs.length, start, Nat.zero_le _, rfl⟩, fun i m H hW => ?_⟩
  obtain ⟨hp, hi, hm⟩ := hW
  have hq := still i H hp
  rcases Nat.lt_or_ge i xs.length with lt | ge
  · exact .inr ⟨⟨xs, xs[i], hq, List.getElem?_eq_getElem lt⟩, Pv (i + 1), fun H' hp' => ⟨m - 1, by omega, hp', by omega, by omega⟩, fun v H' hy => by
      obtain ⟨T, x, rfl, nT, rfl, fx⟩ := hy
      exact turn i x T H (fx xs hq) hp nT⟩
  · have ei : i = xs.length := by omega
    subst ei
    exact .inl ⟨⟨xs, hq, Nat.le_refl _⟩, fin H hp⟩
/-- what a deed's comprehension has made: G1 what the asker knows, Hc the heap ahead of it -/
structure Made (G Hc G1 H : Hp) (D : Addr) (F : Addr → Prop) (us : List V) (ds : List PyData) : Prop where
  g1 : Same G G1
  sub : Same G1 H
  hc : Same Hc H
  out : ∀ b, F b → G1 b = none
  there : ∀ b, F b → ∃ o, Hc b = some o
  gD : G1 D = none
  nD : Hc D = none
  eD : H D = some (.lst us)
  all : DhAll G1 us ds
theorem Made.step {G Hc G1 H : Hp} {D T t : Addr} {F : Addr → Prop} {us : List V} {ds : List PyData} {o : HO} {zs : List V} {es : List PyData} (m : Made G Hc G1 H D F us ds) (nT : H T = none) (nt : upd H T o t = none) (h : ∀ G2, DhAll G2 zs es) :
    Made G Hc (upd G1 t (.tup zs)) (upd (upd (upd H T o) t (.tup zs)) D (.lst (us ++ [.ref t]))) D F (us ++ [.ref t]) (ds ++ [.tuple es]) := by
  have tT : t ≠ T := fun e => by
    rw [e, upd_same] at nt
    cases nt
  have nt2 : H t = none := by
    rw [upd_ne tT] at nt
    exact nt
  have gt : G1 t = none := Same.free m.sub nt2
  have gT : G1 T = none := Same.free m.sub nT
  have ct : Hc t = none := Same.free m.hc nt2
  have cT : Hc T = none := Same.free m.hc nT
  have Dt : D ≠ t := ne_of_none m.eD nt2
  have DT : D ≠ T := ne_of_none m.eD nT
  refine ⟨m.g1.trans (same_upd gt), fun b u e => ?_, fun b u e => ?_, fun b fb => ?_, m.there, by rw [upd_ne Dt]; exact m.gD, m.nD, upd_same, ?_⟩
  · by_cases hb : b = t
    · subst hb
      rw [upd_same] at e
      rw [upd_ne Dt.symm, upd_same]
      exact e
    · rw [upd_ne hb] at e
      have bD : b ≠ D := ne_of_none e m.gD
      have bT : b ≠ T := ne_of_none e gT
      rw [upd_ne bD, upd_ne hb, upd_ne bT]
      exact m.sub _ _ e
  · rw [upd_ne (ne_of_none e m.nD), upd_ne (ne_of_none e ct), upd_ne (ne_of_none e cT)]
    exact m.hc _ _ e
  · obtain ⟨u, e⟩ := m.there b fb
    rw [upd_ne (ne_of_none e ct)]
    exact m.out b fb
  · exact (m.all.same (same_upd gt)).snoc (.tup upd_same (h _))
theorem Made.step0 {G Hc G1 H : Hp} {D t : Addr} {F : Addr → Prop} {us : List V} {ds : List PyData} {zs : List V} {es : List PyData} (m : Made G Hc G1 H D F us ds) (nt : H t = none) (h : ∀ G2, DhAll G2 zs es) :
    Made G Hc (upd G1 t (.tup zs)) (upd (upd H t (.tup zs)) D (.lst (us ++ [.ref t]))) D F (us ++ [.ref t]) (ds ++ [.tuple es]) := by
  have gt : G1 t = none := Same.free m.sub nt
  have ct : Hc t = none := Same.free m.hc nt
  have Dt : D ≠ t := ne_of_none m.eD nt
  refine ⟨m.g1.trans (same_upd gt), fun b u e => ?_, fun b u e => ?_, fun b fb => ?_, m.there, by rw [upd_ne Dt]; exact m.gD, m.nD, upd_same, ?_⟩
  · by_cases hb : b = t
    · subst hb
      rw [upd_same] at e
      rw [upd_ne Dt.symm, upd_same]
      exact e
    · rw [upd_ne hb] at e
      have bD : b ≠ D := ne_of_none e m.gD
      rw [upd_ne bD, upd_ne hb]
      exact m.sub _ _ e
  · rw [upd_ne (ne_of_none e m.nD), upd_ne (ne_of_none e ct)]
    exact m.hc _ _ e
  · obtain ⟨u, e⟩ := m.there b fb
    rw [upd_ne (ne_of_none e ct)]
    exact m.out b fb
  · exact (m.all.same (same_upd gt)).snoc (.tup upd_same (h _))
theorem Made.grow {G Hc G1 H H' : Hp} {D : Addr} {F : Addr → Prop} {us : List V} {ds : List PyData} (m : Made G Hc G1 H D F us ds) (s : Same H H') : Made G Hc G1 H' D F us ds :=
  ⟨m.g1, m.sub.trans s, m.hc.trans s, m.out, m.there, m.gD, m.nD, s _ _ m.eD, m.all⟩
/-- what the asker knows at last -/
theorem Made.view {K : PySem.W.Frag} {C : Addr} {R : Rep K C} {G Hc G1 H : Hp} {D p : Addr} {w : Int} {h : Nat} {xs : List Int} {F : Addr → Prop} {us : List V} {ds : List PyData} (m : Made G Hc G1 H D F us ds) (l : R.Lad H p w h xs F) : View R (upd G1 D (.lst us)) H p w h xs F :=
  ⟨l, fun c u e => by
    by_cases hc : c = D
    · subst hc
      rw [upd_same] at e
      rw [← e]
      exact m.eD
    · rw [upd_ne hc] at e
      exact m.sub _ _ e, fun c fc => by
    have hc : c ≠ D := fun z => by
      obtain ⟨o, e⟩ := m.there c fc
      rw [z, m.nD] at e
      cases e
    rw [upd_ne hc]
    exact m.out c fc⟩
/-! ### the next one on a level, by the row's places -/
theorem lt_place {xs : List Int} (r : xs.Pairwise (· < ·)) {n : Int} {i : Nat} (h : i < xs.length) : i < placeN xs n ↔ xs.getD i 0 < n := by
  have hl := placeN_le xs n
  constructor
  · intro c
    have m : xs.getD i 0 ∈ xs.take (placeN xs n) := by
      rw [getD_eq h]
      exact List.mem_take_iff_getElem.mpr ⟨i, by omega, rfl⟩
    rw [← filt_place r] at m
    exact of_decide_eq_true (List.mem_filter.mp m).2
  · intro c
    have m : xs.getD i 0 ∈ xs.filter fun x => decide (x < n) := List.mem_filter.mpr ⟨mem_at h, decide_eq_true c⟩
    rw [filt_place r] at m
    obtain ⟨j, hj, e⟩ := List.mem_take_iff_getElem.mp m
    have j1 : j < xs.length := by omega
    have j2 : j < placeN xs n := by omega
    have e2 : xs.getD j 0 = xs.getD i 0 := by rw [getD_eq j1, e]
    rcases Nat.lt_trichotomy i j with c2 | c2 | c2
    · have := rise_getD r c2 j1
      omega
    · omega
    · have := rise_getD r c2 h
      omega
/-- the first number of the block behind x's -/
def behindN (w : Int) (l : Nat) (x : Int) : Int := x / w ^ l * w ^ l + w ^ l
def reachN (w : Int) (l : Nat) (xs : List Int) (i : Nat) : Nat := placeN xs (behindN w l (xs.getD i 0))
theorem lt_behind {w : Int} (hw : 2 ≤ w) {l : Nat} {x y : Int} : y < behindN w l x ↔ y / w ^ l ≤ x / w ^ l := by
  have p := pow_pos' hw l
  unfold behindN
  have e : x / w ^ l * w ^ l + w ^ l = (x / w ^ l + 1) * w ^ l := by rw [Int.add_mul, Int.one_mul]
  rw [e, ← Int.ediv_lt_iff_lt_mul p]
  omega
theorem reach_gt {w : Int} (hw : 2 ≤ w) {l : Nat} {xs : List Int} (r : xs.Pairwise (· < ·)) {i : Nat} (h : i < xs.length) : i < reachN w l xs i := (lt_place r h).mpr ((lt_behind hw).mpr (Int.le_refl _))
theorem reach_le (w : Int) (l : Nat) (xs : List Int) (i : Nat) : reachN w l xs i ≤ xs.length := placeN_le _ _
theorem next_reach {w : Int} (hw : 2 ≤ w) {l : Nat} {xs : List Int} (r : xs.Pairwise (· < ·)) {i : Nat} (h : i < xs.length) : nextO w l xs (xs.getD i 0) = xs[reachN w l xs i]? := by
  have p := pow_pos' hw l
  have gt := reach_gt hw (l := l) r h
  have le := reach_le w l xs i
  have mono : ∀ {a b : Nat}, a ≤ b → b < xs.length → xs.getD a 0 / w ^ l ≤ xs.getD b 0 / w ^ l := fun {a b} ab bl => by
    rcases Nat.lt_or_ge a b with c | c
    · exact Int.ediv_le_ediv p (Int.le_of_lt (rise_getD r c bl))
    · have : a = b := by omega
      rw [this]
      exact Int.le_refl _
  have same : ∀ k, i ≤ k → k < reachN w l xs i → xs.getD k 0 / w ^ l = xs.getD i 0 / w ^ l := fun k k1 k2 => by
    have kl : k < xs.length := by omega
    have a1 := (lt_behind hw).mp ((lt_place r kl).mp k2)
    have a2 := mono k1 kl
    omega
  rw [nextO_idx r h, plac_next gt le (fun k k1 k2 => by rw [same k (by omega) k2, same (k - 1) (by omega) (by omega)]) (fun lt e => by
    have a1 : ¬ xs.getD (reachN w l xs i) 0 < behindN w l (xs.getD i 0) := fun z => absurd ((lt_place r lt).mpr z) (Nat.lt_irrefl _)
    rw [same (reachN w l xs i - 1) (by omega) (by omega)] at e
    exact a1 ((lt_behind hw).mpr (by omega)))]
  by_cases c : reachN w l xs i < xs.length
  · rw [if_pos c, List.getElem?_eq_getElem c]
    show some (xs.getD (reachN w l xs i) 0) = _
    rw [getD_eq c]
  · rw [if_neg c, List.getElem?_eq_none (by omega)]
    rfl
/-- the first number of a block, and who stands there -/
def beginN (w : Int) (l : Nat) (x : Int) : Int := x / w ^ l * w ^ l
theorem begin_le {w : Int} (hw : 2 ≤ w) {l : Nat} {x y : Int} : beginN w l x ≤ y ↔ x / w ^ l ≤ y / w ^ l := by
  have p := pow_pos' hw l
  unfold beginN
  rw [← Int.le_ediv_iff_mul_le p]
theorem lev_begin {w : Int} (hw : 2 ≤ w) {l : Nat} {xs : List Int} (r : xs.Pairwise (· < ·)) {n : Int} : n ∈ levL w l xs ↔ xs[placeN xs (beginN w l n)]? = some n := by
  rw [mem_lev hw r, ← aboveEq_at r]
  constructor
  · rintro ⟨hn, ld⟩
    have mn : n ∈ xs.filter fun x => decide (beginN w l n ≤ x) := List.mem_filter.mpr ⟨hn, decide_eq_true ((begin_le hw).mpr (Int.le_refl _))⟩
    cases hh : (xs.filter fun x => decide (beginN w l n ≤ x)).head? with
    | none =>
      rw [List.head?_eq_none_iff] at hh
      rw [hh] at mn
      cases mn
    | some z =>
      obtain ⟨mz, lz⟩ := head_min (r.filter _) hh
      have zn := lz n mn
      have mz2 := List.mem_filter.mp mz
      have z1 := (begin_le hw).mp (of_decide_eq_true mz2.2)
      have z2 : z / w ^ l ≤ n / w ^ l := Int.ediv_le_ediv (pow_pos' hw l) zn
      by_cases c : z < n
      · exact absurd (by omega) (ld z mz2.1 c)
      · rw [show z = n by omega]
  · intro hh
    obtain ⟨mz, lz⟩ := head_min (r.filter _) hh
    refine ⟨(List.mem_filter.mp mz).1, fun y hy lt e => ?_⟩
    have := lz y (List.mem_filter.mpr ⟨hy, decide_eq_true ((begin_le hw).mpr (by omega))⟩)
    omega
/-- how far it is to the next one -/
theorem gap_reach {w : Int} (hw : 2 ≤ w) {l : Nat} {xs : List Int} (r : xs.Pairwise (· < ·)) {i : Nat} (h : i < xs.length) : (gapN w l xs (xs.getD i 0) : Int) = (reachN w l xs i : Int) - (i : Int) := by
  have gt := reach_gt hw (l := l) r h
  have le := reach_le w l xs i
  unfold gapN
  rw [next_reach hw r h]
  by_cases c : reachN w l xs i < xs.length
  · rw [List.getElem?_eq_getElem c]
    have z := place_gap (xs.getD i 0) (xs.getD (reachN w l xs i) 0) (Int.le_of_lt (rise_getD r gt c)) xs
    rw [placeN_at r h, placeN_at r c] at z
    rw [getD_eq c] at z
    show ((xs.filter fun x => decide (xs.getD i 0 ≤ x) && decide (x < xs[reachN w l xs i])).length : Int) = _
    omega
  · rw [List.getElem?_eq_none (by omega)]
    have e : (xs.filter fun x => decide (xs.getD i 0 ≤ x) && true) = xs.filter fun x => decide (xs.getD i 0 ≤ x) := List.filter_congr fun x _ => Bool.and_true _
    have z := place_rest (xs.getD i 0) xs
    rw [placeN_at r h] at z
    show ((xs.filter fun x => decide (xs.getD i 0 ≤ x) && true).length : Int) = _
    rw [e]
    omega
/-- a step of a trail, by the places -/
theorem trail_idx {w : Int} (hw : 2 ≤ w) {xs : List Int} (r : xs.Pairwise (· < ·)) (n : Int) (l : Nat) {i : Nat} (h : i < xs.length) : trailC w xs n l (xs.getD i 0) = (l, xs.getD i 0) ::
    if reachN w l xs i < placeN xs (n + 1) then trailC w xs n l (xs.getD (reachN w l xs i) 0) else downT w xs n l (xs.getD i 0) := by
  have pl := placeN_le xs (n + 1)
  rw [trailC_step r, next_reach hw r h]
  congr 1
  by_cases c : reachN w l xs i < xs.length
  · rw [List.getElem?_eq_getElem c, getD_eq c]
    show (if xs[reachN w l xs i] ≤ n then _ else _) = _
    have z := lt_place r (n := n + 1) c
    rw [getD_eq c] at z
    by_cases c2 : reachN w l xs i < placeN xs (n + 1)
    · rw [if_pos c2, if_pos (by have := z.mp c2; omega)]
    · rw [if_neg c2, if_neg fun q => c2 (z.mpr (by omega))]
  · rw [List.getElem?_eq_none (by omega), if_neg (by omega)]
/-- what is left of a trail at a level (one more than it, none at 0) and a place -/
def restW (w : Int) (xs : List Int) (n : Int) (i : Nat) : Nat → List (Nat × Int)
  | 0 => []
  | l + 1 => trailC w xs n l (xs.getD i 0)
theorem restW_step {w : Int} (hw : 2 ≤ w) {xs : List Int} (r : xs.Pairwise (· < ·)) (n : Int) (l : Nat) {i : Nat} (h : i < xs.length) : restW w xs n i (l + 1) = (l, xs.getD i 0) ::
    if reachN w l xs i < placeN xs (n + 1) then restW w xs n (reachN w l xs i) (l + 1) else restW w xs n i l := by
  show trailC w xs n l (xs.getD i 0) = _
  rw [trail_idx hw r n l h]
  cases l <;> rfl
theorem trailR_rest {w : Int} {h : Nat} {xs : List Int} (r : xs.Pairwise (· < ·)) (n : Int) : trailR w h xs n = if placeN xs (n + 1) = 0 then [] else restW w xs n 0 (h + 1) := by
  cases xs with
  | nil =>
    exact (if_pos (show placeN [] (n + 1) = 0 from rfl)).symm
  | cons x rest =>
    have z := lt_place r (n := n + 1) (i := 0) (by simp)
    have z2 : 0 < placeN (x :: rest) (n + 1) ↔ x < n + 1 := z
    show (if x ≤ n then trailC w (x :: rest) n h x else []) = _
    by_cases c : x ≤ n
    · rw [if_pos c, if_neg (by have := z2.mpr (by omega); omega)]
      rfl
    · rw [if_neg c, if_pos (by
        rcases Nat.eq_zero_or_pos (placeN (x :: rest) (n + 1)) with e | e
        · exact e
        · have := z2.mp e
          omega)]
theorem place_next {xs : List Int} (r : xs.Pairwise (· < ·)) {j : Nat} (h : j < xs.length) : placeN xs (xs.getD j 0 + 1) = j + 1 := by
  have a := (lt_place r (n := xs.getD j 0 + 1) h).mpr (by omega)
  have hl := placeN_le xs (xs.getD j 0 + 1)
  rcases Nat.lt_or_ge (j + 1) (placeN xs (xs.getD j 0 + 1)) with c | c
  · have := (lt_place r (n := xs.getD j 0 + 1) (i := j + 1) (by omega)).mp c
    have := rise_getD r (show j < j + 1 by omega) (show j + 1 < xs.length by omega)
    omega
  · omega
theorem belowEq_at {xs : List Int} (r : xs.Pairwise (· < ·)) (n : Int) : belowEq xs n = if placeN xs (n + 1) = 0 then none else xs[placeN xs (n + 1) - 1]? := by
  rw [← belowO_at r (n + 1)]
  unfold belowEq belowO
  refine congrArg List.getLast? (List.filter_congr fun x _ => ?_)
  by_cases c : x ≤ n
  · rw [decide_eq_true c, decide_eq_true (by omega)]
  · rw [decide_eq_false c, decide_eq_false (by omega)]
/-- a comprehension over a dict's keys, the dict being locked -/
theorem lc_keys {d : Addr} {o : Obj} {kvs : List (Key × V)} {g : TG} {tt : TT} {te : TE} {vs : List Nat} {σ : L2.St} {H1 : Hp} {D : Addr} {Qd : Hp → Prop} (Pv : Nat → Hp → Prop) (start : Pv 0 (upd H1 D (.lst [])))
    (still : ∀ i H, Pv i H → H d = some (.frz o (.dK kvs)))
    (turn : ∀ (i : Nat) (k : Key) (v : V) (H : Hp), kvs[i]? = some (k, v) → Pv i H → g (kV k) (wipe σ vs) H fun σ2 H2 => wipe σ2 vs = wipe σ vs ∧ tt σ2 H2 fun b H3 =>
      if b = true then te σ2 H3 fun y H4 => ∃ acc, H4 D = some (.lst acc) ∧ acc.length < sizeLine ∧ Pv (i + 1) (upd H4 D (.lst (acc ++ [y]))) else Pv (i + 1) H3) (fin : ∀ H, Pv kvs.length H → Qd H) :
    ∃ W : Nat → Nat → Hp → Prop, (∃ m, W 0 m (upd H1 D (.lst []))) ∧ ∀ i m H, W i m H →
      ((Itk d o kvs).stop i H ∧ Qd H) ∨ ((Itk d o kvs).go i H ∧ ∃ Nx : Hp → Prop, (∀ H', Nx H' → ∃ m', m' < m ∧ W (i + 1) m' H') ∧ ∀ x H', (Itk d o kvs).yld i H x H' → g x (wipe σ vs) H' fun σ2 H2 => wipe σ2 vs = wipe σ vs ∧ tt σ2 H2 fun b H3 =>
        if b = true then te σ2 H3 fun y H4 => ∃ acc, H4 D = some (.lst acc) ∧ acc.length < sizeLine ∧ Nx (upd H4 D (.lst (acc ++ [y]))) else Nx H3) := by
  refine ⟨fun i m H => Pv i H ∧ i ≤ kvs.length ∧ m + i = kvs.length, ⟨kvs.length, start, Nat.zero_le _, rfl⟩, fun i m H hW => ?_⟩
  obtain ⟨hp, hi, hm⟩ := hW
  have hq := still i H hp
  rcases Nat.lt_or_ge i kvs.length with lt | ge
  · exact .inr ⟨⟨hq, lt⟩, Pv (i + 1), fun H' hp' => ⟨m - 1, by omega, hp', by omega, by omega⟩, fun x H' hy => by
      obtain ⟨rfl, k, v, e, rfl⟩ := hy
      exact turn i k v _ e hp⟩
  · have ei : i = kvs.length := by omega
    subst ei
    exact .inl ⟨⟨hq, Nat.le_refl _⟩, fin H hp⟩
/-- a lock that is taken off -/
theorem same_unlock {H H' : Hp} {e : Addr} {u : HO} {od : Obj} (he : H e = some u) (s : Same (upd H e (.frz od u)) H') : Same H (upd H' e u) := fun b o eb => by
  by_cases c : b = e
  · subst c
    rw [upd_same, ← eb, he]
  · rw [upd_ne c]
    refine s _ _ ?_
    rw [upd_ne c]
    exact eb
theorem dkv_at {ns : List Int} {i : Nat} {k : Key} {v : V} (h : (dkv ns)[i]? = some (k, v)) : i < ns.length ∧ k = Sum.inl (ns.getD i 0) := by
  unfold dkv at h
  rw [List.getElem?_map] at h
  obtain ⟨x, hx, e⟩ := Option.map_eq_some_iff.mp h
  obtain ⟨hi, e2⟩ := List.getElem?_eq_some_iff.mp hx
  cases e
  exact ⟨hi, by rw [getD_eq hi, e2]⟩
theorem take_next (p : Int → Bool) {xs : List Int} {i : Nat} (h : i < xs.length) : (xs.take (i + 1)).filter p = (xs.take i).filter p ++ if p (xs.getD i 0) = true then [xs.getD i 0] else [] := by
  rw [List.take_succ, List.getElem?_eq_getElem h, List.filter_append, getD_eq h]
  congr 1
  show ([xs[i]].filter p) = _
  rw [List.filter_cons]
  split <;> rfl
/-- .. and one more object that is listed -/
theorem Made.add {G Hc G1 H : Hp} {D t : Addr} {F : Addr → Prop} {us : List V} {ds : List PyData} {o : HO} {d : PyData} (m : Made G Hc G1 H D F us ds) (nt : H t = none) (h : Dh (upd G1 t o) (.ref t) d) :
    Made G Hc (upd G1 t o) (upd (upd H t o) D (.lst (us ++ [.ref t]))) D F (us ++ [.ref t]) (ds ++ [d]) := by
  have gt : G1 t = none := Same.free m.sub nt
  have ct : Hc t = none := Same.free m.hc nt
  have Dt : D ≠ t := ne_of_none m.eD nt
  refine ⟨m.g1.trans (same_upd gt), fun b u e => ?_, fun b u e => ?_, fun b fb => ?_, m.there, by rw [upd_ne Dt]; exact m.gD, m.nD, upd_same, ?_⟩
  · by_cases hb : b = t
    · subst hb
      rw [upd_same] at e
      rw [upd_ne Dt.symm, upd_same]
      exact e
    · rw [upd_ne hb] at e
      have bD : b ≠ D := ne_of_none e m.gD
      rw [upd_ne bD, upd_ne hb]
      exact m.sub _ _ e
  · rw [upd_ne (ne_of_none e m.nD), upd_ne (ne_of_none e ct)]
    exact m.hc _ _ e
  · obtain ⟨u, e⟩ := m.there b fb
    rw [upd_ne (ne_of_none e ct)]
    exact m.out b fb
  · exact (m.all.same (same_upd gt)).snoc h
/-! ### all that is no ladder's -/
noncomputable def outF (F : Addr → Prop) (H : Hp) : Hp := fun b => @ite _ (F b) (Classical.propDecidable _) none (H b)
theorem outF_in {F : Addr → Prop} {H : Hp} {b : Addr} (h : F b) : outF F H b = none := by
  unfold outF
  rw [if_pos h]
theorem outF_out {F : Addr → Prop} {H : Hp} {b : Addr} (h : ¬ F b) : outF F H b = H b := by
  unfold outF
  rw [if_neg h]
theorem outF_some {F : Addr → Prop} {H : Hp} {b : Addr} {o : HO} (h : outF F H b = some o) : ¬ F b ∧ H b = some o := by
  by_cases c : F b
  · rw [outF_in c] at h
    cases h
  · rw [outF_out c] at h
    exact ⟨c, h⟩
theorem view_out {K : PySem.W.Frag} {C : Addr} {R : Rep K C} {H : Hp} {p : Addr} {w : Int} {h : Nat} {xs : List Int} {F : Addr → Prop} (l : R.Lad H p w h xs F) : View R (outF F H) H p w h xs F :=
  ⟨l, fun _ _ e => (outF_some e).2, fun _ f => outF_in f⟩
/-- what a deed on the ladder of F leaves: F' is the ladder's then -/
def Frame (F F' : Addr → Prop) (H H' : Hp) : Prop := ∀ b o, ¬ F b → H b = some o → H' b = some o ∧ ¬ F' b
theorem Frame.refl (F : Addr → Prop) {H H' : Hp} (s : Same H H') : Frame F F H H' := fun _ _ nf e => ⟨s _ _ e, nf⟩
theorem Frame.trans {F F' F2 : Addr → Prop} {H H' H2 : Hp} (a : Frame F F' H H') (b : Frame F' F2 H' H2) : Frame F F2 H H2 := fun c o nf e => b c o (a c o nf e).2 (a c o nf e).1
theorem frame_view {K : PySem.W.Frag} {C : Addr} {R : Rep K C} {H H' G' : Hp} {p : Addr} {w : Int} {h : Nat} {xs : List Int} {F F' : Addr → Prop} (v : View R G' H' p w h xs F') (s : Same (outF F H) G') : Frame F F' H H' := fun b o nf e => by
  have e2 := s b o (by rw [outF_out nf]; exact e)
  exact ⟨v.sub _ _ e2, fun f => by
    rw [v.out b f] at e2
    cases e2⟩
/-- another ladder stays -/
theorem Frame.lad {K : PySem.W.Frag} {C : Addr} {R : Rep K C} {H H' : Hp} {q : Addr} {w : Int} {h : Nat} {ys : List Int} {F F' F2 : Addr → Prop} (f : Frame F F' H H') (l : R.Lad H q w h ys F2) (d : ∀ b, F b → ¬ F2 b) : R.Lad H' q w h ys F2 ∧ ∀ b, F' b → ¬ F2 b :=
  ⟨R.stay l fun b o fb e => (f b o (fun z => d b z fb) e).1, fun b f1 f2 => by
    obtain ⟨o, e⟩ := R.there l b f2
    exact (f b o (fun z => d b z f2) e).2 f1⟩
/-- one row poured into another one -/
def pourL (ys xs : List Int) : List Int := ys.foldl (fun acc y => insR y acc) xs
theorem mem_pourL : ∀ {ys xs : List Int} {x : Int}, x ∈ pourL ys xs ↔ x ∈ ys ∨ x ∈ xs
  | [], xs, x => ⟨fun h => .inr h, fun h => h.elim (fun z => nomatch z) id⟩
  | y :: ys, xs, x => by
    show x ∈ pourL ys (insR y xs) ↔ _
    rw [mem_pourL, mem_insR, List.mem_cons]
    constructor
    · rintro (h | h | ⟨h, _⟩)
      · exact .inl (.inr h)
      · exact .inl (.inl h)
      · exact .inr h
    · rintro ((h | h) | h)
      · exact .inr (.inl h)
      · exact .inl h
      · by_cases c : x = y
        · exact .inr (.inl c)
        · exact .inr (.inr ⟨h, c⟩)
theorem pourL_next {ys xs : List Int} {i : Nat} (h : i < ys.length) : pourL (ys.take (i + 1)) xs = insR (ys.getD i 0) (pourL (ys.take i) xs) := by
  unfold pourL
  rw [List.take_succ, List.getElem?_eq_getElem h, List.foldl_append, getD_eq h]
  rfl
theorem pourL_rise : ∀ {ys xs : List Int}, xs.Pairwise (· < ·) → (pourL ys xs).Pairwise (· < ·)
  | [], _, r => r
  | y :: ys, xs, r => pourL_rise (ys := ys) (insR_rise r)
theorem nodup_at {ys : List Int} (r : ys.Nodup) {i : Nat} (h : i < ys.length) : ys.getD i 0 ∉ ys.take i := fun m => by
  obtain ⟨j, hj, e⟩ := List.mem_take_iff_getElem.mp m
  have jl : j < ys.length := by omega
  have q := List.pairwise_iff_getElem.mp (List.nodup_iff_pairwise_ne.mp r) j i jl h (by omega)
  rw [getD_eq h] at e
  exact q e
theorem pourL_perm : ∀ {ys xs : List Int}, ys.Nodup → (∀ y ∈ ys, y ∉ xs) → (pourL ys xs).Perm (ys ++ xs)
  | [], _, _, _ => List.Perm.refl _
  | y :: ys, xs, r, d => by
    have rr := List.nodup_cons.mp r
    refine (pourL_perm (ys := ys) (xs := insR y xs) rr.2 fun z hz m => ?_).trans ?_
    · rcases mem_insR.mp m with e | ⟨m2, _⟩
      · exact rr.1 (e ▸ hz)
      · exact d z (List.mem_cons_of_mem _ hz) m2
    · exact (List.Perm.append_left ys (insR_perm (d y List.mem_cons_self))).trans List.perm_middle
theorem pourL_len {ys xs : List Int} (r : ys.Nodup) (d : ∀ y ∈ ys, y ∉ xs) : (pourL ys xs).length = ys.length + xs.length := by
  rw [(pourL_perm r d).length_eq, List.length_append]
theorem rise_nodup {xs : List Int} (r : xs.Pairwise (· < ·)) : xs.Nodup := r.imp fun h => Int.ne_of_lt h
/-! ### several ladders -/
def uni (F X : Addr → Prop) : Addr → Prop := fun b => F b ∨ X b
theorem Frame.uni {F F' X : Addr → Prop} {H H' : Hp} (f : Frame F F' H H') : Frame (uni F X) (uni F' X) H H' := fun b o n e => by
  have z := f b o (fun q => n (.inl q)) e
  exact ⟨z.1, fun q => q.elim z.2 fun r => n (.inr r)⟩
theorem Frame.uniR {F F' X : Addr → Prop} {H H' : Hp} (f : Frame F F' H H') : Frame (Sk.uni X F) (Sk.uni X F') H H' := fun b o n e => by
  have z := f b o (fun q => n (.inr q)) e
  exact ⟨z.1, fun q => q.elim (fun r => n (.inl r)) z.2⟩
theorem Frame.own {B B' : Addr → Prop} {H H' : Hp} (f : Frame B B' H H') : Same (outF B H) (outF B' H') := fun b o e => by
  obtain ⟨n, e2⟩ := outF_some e
  have z := f b o n e2
  rw [outF_out z.2]
  exact z.1
/-- new objects come into the bag -/
theorem Frame.more {B F : Addr → Prop} {H H' : Hp} (s : Same H H') (n : ∀ b, F b → H b = none) : Frame B (Sk.uni B F) H H' := fun b o nb e => ⟨s _ _ e, fun q => q.elim nb fun f => by
  rw [n b f] at e
  cases e⟩
/-- what is in no bag is in no smaller one -/
theorem Frame.less {B X : Addr → Prop} {H : Hp} (h : ∀ b, X b → B b) : Frame B X H H := fun b o n e => ⟨e, fun x => n (h b x)⟩
theorem own_sub {B : Addr → Prop} {H : Hp} : Same (outF B H) H := fun _ _ e => (outF_some e).2
/-- what a bag holds is there, and no tuple -/
def Bag (B : Addr → Prop) (H : Hp) : Prop := ∀ b, B b → ∃ o, H b = some o ∧ ∀ vs, o ≠ .tup vs
theorem Bag.same {B : Addr → Prop} {H H' : Hp} (g : Bag B H) (s : Same H H') : Bag B H' := fun b h => by
  obtain ⟨o, e, n⟩ := g b h
  exact ⟨o, s _ _ e, n⟩
theorem Bag.uni {B X : Addr → Prop} {H : Hp} (g : Bag B H) (g2 : Bag X H) : Bag (Sk.uni B X) H := fun b h => h.elim (g b) (g2 b)
/-- a list of the bag's is changed -/
theorem Bag.upd {B : Addr → Prop} {H : Hp} {D : Addr} {xs : List V} (g : Bag B H) : Bag B (upd H D (.lst xs)) := fun b h => by
  by_cases c : b = D
  · subst c
    exact ⟨_, upd_same, fun vs z => nomatch z⟩
  · rw [upd_ne c]
    exact g b h
def one (D : Addr) : Addr → Prop := fun b => b = D
theorem Bag.one {H : Hp} {D : Addr} {xs : List V} (e : H D = some (.lst xs)) : Bag (Sk.one D) H := fun b h => by
  have h2 : b = D := h
  subst h2
  exact ⟨_, e, fun vs z => nomatch z⟩
theorem frame_upd {B : Addr → Prop} {H : Hp} {D : Addr} {o : HO} (h : B D) : Frame B B H (upd H D o) := fun b u n e => ⟨by
  have c : b ≠ D := fun z => by
    subst z
    exact n h
  rw [upd_ne c]
  exact e, n⟩
theorem Bag.fresh {B : Addr → Prop} {H : Hp} (g : Bag B H) {t : Addr} (n : H t = none) : ¬ B t := fun h => by
  obtain ⟨o, e, _⟩ := g t h
  rw [n] at e
  cases e
/-- tuples that are found by a ladder are in no bag -/
theorem dh_bag {B F : Addr → Prop} {G H H' : Hp} (g : Bag B H) (s : Same H H') (sub : Same G H') : ∀ {vs : List V} {ds : List PyData}, (∀ d ∈ ds, ∃ es, d = .tuple es ∧ ∀ e ∈ es, e = .none ∨ ∃ i, e = .int i) → DhAll G vs ds → DhAll (outF B H') vs ds
  | [], [], _, .nil => .nil
  | v :: vs, d :: ds, h, .cons hd r => by
    refine .cons ?_ (dh_bag (F := F) g s sub (fun x hx => h x (List.mem_cons_of_mem _ hx)) r)
    obtain ⟨es, rfl, hes⟩ := h d List.mem_cons_self
    cases hd with
    | @tup a xs _ e he =>
      have nb : ¬ B a := fun q => by
        obtain ⟨o, eo, n⟩ := g a q
        have z := sub _ _ e
        rw [s _ _ eo] at z
        exact n xs (Option.some.inj z)
      refine .tup (by rw [outF_out nb]; exact sub _ _ e) ?_
      have key : ∀ {xs : List V} {es : List PyData}, (∀ e ∈ es, e = .none ∨ ∃ i, e = .int i) → DhAll G xs es → DhAll (outF B H') xs es := by
        intro xs
        induction xs with
        | nil =>
          intro es _ h
          cases h
          exact .nil
        | cons x xs ih =>
          intro es hes h
          cases h with
          | cons h1 h2 =>
            refine .cons ?_ (ih (fun e he => hes e (List.mem_cons_of_mem _ he)) h2)
            rcases hes _ List.mem_cons_self with z | ⟨i, z⟩
            · subst z
              cases h1
              exact .non
            · subst z
              cases h1
              exact .int _
      exact key hes he
theorem stD_flat {ts : List (Nat × Int)} : ∀ d ∈ ts.map stD, ∃ es, d = .tuple es ∧ ∀ e ∈ es, e = .none ∨ ∃ i, e = .int i := fun d hd => by
  obtain ⟨s, _, rfl⟩ := List.mem_map.mp hd
  refine ⟨_, rfl, fun e he => ?_⟩
  rcases List.mem_cons.mp he with z | he
  · exact .inr ⟨_, z⟩
  · exact .inr ⟨_, List.mem_singleton.mp he⟩
/-- a list that is being made, the bag's own -/
structure Mk14 (B : Addr → Prop) (D : Addr) (H : Hp) (us : List V) (ds : List PyData) : Prop where
  bag : Bag B H
  inB : B D
  eD : H D = some (.lst us)
  all : DhAll (outF B H) us ds
theorem Mk14.grow {B : Addr → Prop} {D : Addr} {H H' : Hp} {us : List V} {ds : List PyData} (m : Mk14 B D H us ds) (s : Same H H') : Mk14 B D H' us ds := ⟨m.bag.same s, m.inB, s _ _ m.eD, m.all.same (Frame.refl B s).own⟩
theorem Mk14.app {B : Addr → Prop} {D : Addr} {H H' : Hp} {us : List V} {ds : List PyData} {v : V} {d : PyData} (m : Mk14 B D H us ds) (s : Same H H') (h : Dh (outF B H') v d) : Mk14 B D (upd H' D (.lst (us ++ [v]))) (us ++ [v]) (ds ++ [d]) :=
  ⟨(m.bag.same s).upd, m.inB, upd_same, ((m.all.same (Frame.refl B s).own).snoc h).same (frame_upd m.inB).own⟩
/-- for x in reversed(xs) -/
theorem for_back {K : PySem.W.Frag} {a : Addr} {xs : List V} {g : TG} {tb : TS} {D : Ends} {σ : L2.St} {H : Hp} (Pv : Nat → L2.St → Hp → Prop) (start : Pv 0 σ H) (still : ∀ i σ H, Pv i σ H → SqL K H a xs)
    (turn : ∀ (i : Nat) (x : V) (σ : L2.St) (H : Hp), i < xs.length → xs[xs.length - 1 - i]? = some x → Pv i σ H → g x σ H fun σ2 H2 => tb { D with nx := Pv (i + 1), ct := Pv (i + 1), bk := D.nx } σ2 H2) (fin : ∀ σ H, Pv xs.length σ H → D.nx σ H) :
    ∃ W : Nat → Nat → L2.St → Hp → Prop, (∃ m, W 0 m σ H) ∧ ∀ i m σ H, W i m σ H →
      ((Itv K a xs.length).stop i H ∧ D.nx σ H) ∨ ((Itv K a xs.length).go i H ∧ ∃ N : L2.St → Hp → Prop, (∀ σ' H', N σ' H' → ∃ m', m' < m ∧ W (i + 1) m' σ' H') ∧ ∀ v H', (Itv K a xs.length).yld i H v H' → g v σ H' fun σ2 H2 => tb { D with nx := N, ct := N, bk := D.nx } σ2 H2) := by
  refine ⟨fun i m σ H => Pv i σ H ∧ i ≤ xs.length ∧ m + i = xs.length, ⟨xs.length, start, Nat.zero_le _, rfl⟩, fun i m σ H hW => ?_⟩
  obtain ⟨hp, hi, hm⟩ := hW
  have hq := still i σ H hp
  rcases Nat.lt_or_ge i xs.length with lt | ge
  · have l2 : xs.length - 1 - i < xs.length := by omega
    exact .inr ⟨⟨lt, xs, xs[xs.length - 1 - i], hq, List.getElem?_eq_getElem l2⟩, Pv (i + 1), fun σ' H' hp' => ⟨m - 1, by omega, hp', by omega, by omega⟩, fun v H' hy => by
      obtain ⟨rfl, fx⟩ := hy
      exact turn i v σ _ lt (fx xs hq) hp⟩
  · have ei : i = xs.length := by omega
    subst ei
    exact .inl ⟨Nat.le_refl _, fin σ H hp⟩
/-- new objects stay new -/
theorem Frame.fresh {F F' : Addr → Prop} {H0 H H' : Hp} (f : Frame F F' H H') (s : Same H0 H) (n : ∀ b, F b → H0 b = none) : Same H0 H' ∧ ∀ b, F' b → H0 b = none := by
  have key : ∀ b o, H0 b = some o → H' b = some o ∧ ¬ F' b := fun b o e => f b o (fun q => by
    rw [n b q] at e
    cases e) (s b o e)
  refine ⟨fun b o e => (key b o e).1, fun b q => ?_⟩
  cases e : H0 b with
  | none => rfl
  | some o => exact absurd q (key b o e).2
/-- the least one put ahead of a row -/
theorem insR_first {n : Int} {xs : List Int} (h : ∀ x ∈ xs, n < x) : insR n xs = n :: xs := by
  unfold insR
  rw [List.filter_eq_nil_iff.mpr fun x hx => by
    have := h x hx
    rw [decide_eq_false (by omega)]
    decide, List.filter_eq_self.mpr fun x hx => decide_eq_true (h x hx)]
  rfl
theorem RowOk.sub {w : Int} {h : Nat} {xs ys : List Int} (o : RowOk w h xs) (s : ys.Sublist xs) : RowOk w h ys := ⟨o.w2, o.w9, o.h1, o.h12, o.rise.sublist s, fun x hx => o.lo x (s.subset hx), fun x hx => o.hi x (s.subset hx)⟩
theorem neD_no {K : PySem.W.Frag} {H : Hp} {x y : V} {d1 d2 : PyData} {Q : VK} (hx : Dp K H x d1) (hy : Dp K H y d2) (s1 : SeqAt.shaped d1 = true) (s2 : SeqAt.shaped d2 = true) (e : PyData.eqv d1 d2 = false) (q : Q (.bl true) H) : rNeD K x y H Q := ⟨d1, d2, hx, hy, s1, s2, by
  rw [e]
  exact q⟩
theorem eqv_nil : ∀ {ds : List PyData}, ds ≠ [] → PyData.eqv (.list ds) (.list []) = false
  | [], h => absurd rfl h
  | _ :: _, _ => rfl
theorem trail_some {w : Int} {h : Nat} {xs : List Int} (r : xs.Pairwise (· < ·)) {j : Nat} (hj : j < xs.length) : trailR w h xs (xs.getD j 0) ≠ [] := by
  rw [trailR_rest r, place_next r hj, if_neg (by omega)]
  show trailC w xs (xs.getD j 0) h (xs.getD 0 0) ≠ []
  rw [trailC_step r]
  exact List.cons_ne_nil _ _
theorem lev_zero' {w : Int} (hw : 2 ≤ w) {xs : List Int} (r : xs.Pairwise (· < ·)) {n : Int} (h : n ∈ xs) : n ∈ levL w 0 xs := by
  rw [mem_lev hw r]
  refine ⟨h, fun y _ lt e => ?_⟩
  rw [Int.pow_zero, Int.ediv_one, Int.ediv_one] at e
  omega
/-! ### a trail as it stands in the heap -/
theorem dh_states {H H' : Hp} (st : ∀ c xs, H c = some (.tup xs) → H' c = some (.tup xs)) : ∀ {ts : List (Nat × Int)} {us : List V}, DhAll H us (ts.map stD) → DhAll H' us (ts.map stD)
  | [], _, h => by
    cases h
    exact .nil
  | s :: ts, _, h => by
    cases h with
    | cons h r =>
      obtain ⟨t, rfl, ht⟩ := dh_st h
      exact .cons (.tup (st _ _ ht) (.cons (.int _) (.cons (.int _) .nil))) (dh_states st r)
theorem eqD_ne {K : PySem.W.Frag} {H : Hp} {x y : V} {d1 d2 : PyData} {Q : VK} (hx : Dp K H x d1) (hy : Dp K H y d2) (s1 : SeqAt.shaped d1 = true) (s2 : SeqAt.shaped d2 = true) (e : PyData.eqv d1 d2 = false) (q : Q (.bl false) H) : rEqD K x y H Q := ⟨d1, d2, hx, hy, s1, s2, by
  rw [e]
  exact q⟩
theorem st_at {H : Hp} {us : List V} {t : List (Nat × Int)} {i : Nat} {s : Nat × Int} (df : DhAll H us (t.map stD)) (h : t[i]? = some s) : ∃ tt, us[i]? = some (.ref tt) ∧ H tt = some (.tup [.int (s.1 : Int), .int s.2]) := by
  have ll : us.length = t.length := by rw [df.len, List.length_map]
  have hi : i < us.length := by
    rw [ll]
    exact (List.getElem?_eq_some_iff.mp h).1
  obtain ⟨d, hd, dv⟩ := df.get (List.getElem?_eq_getElem hi)
  rw [List.getElem?_map, h] at hd
  cases hd
  obtain ⟨tt, e, ht⟩ := dh_st dv
  exact ⟨tt, by rw [List.getElem?_eq_getElem hi, e], ht⟩
theorem dh_two {H : Hp} {t : Addr} {x y : Int} (h : H t = some (.tup [.int x, .int y])) : Dh H (.ref t) (.tuple [.int x, .int y]) := .tup h (.cons (.int _) (.cons (.int _) .nil))
def stretchL' (xs : List Int) (lo hi : Int) : List Int := xs.filter fun x => decide (lo ≤ x) && decide (x < hi)
/-! ### all that a ladder tells at once -/
def aheadD (w : Int) (l : Nat) (xs : List Int) (n : Int) : PyData := .tuple [dO (nextO w l xs n), .int (gapN w l xs n : Int)]
theorem flat_next {α β : Type} (f : α → List β) (xs : List α) (x : α) : (xs ++ [x]).flatMap f = xs.flatMap f ++ f x := by
  rw [List.flatMap_append]
  simp
def toldLev (w : Int) (h : Nat) (xs : List Int) (s0 : Int) (l : Nat) : List PyData := dI (levL w l xs) :: if V.int (l : Int) = V.int (s0 % ((h : Int) + 1)) then [.list ((levL w l xs).map (aheadD w l xs))] else []
def toldNum (w : Int) (h : Nat) (xs : List Int) (n : Int) : List PyData := [.list [.bool (decide (n ∈ xs)), dO (belowEq xs n), dO (aboveEq xs n), .int (placeN xs n : Int)], .list ((trailR w h xs n).map stD)]
def toldAt (w : Int) (h : Nat) (xs : List Int) (k : Nat) : List PyData := [.list [.int (xs.getD k 0), .list ((trailR w h xs (xs.getD k 0)).map stD)], .list [.int (xs.getD 0 0), .int (xs.getD (xs.length - 1) 0)]]
def toldD (w : Int) (h : Nat) (xs : List Int) (s0 s1 s2 : Int) : List PyData := [.int w, .int (h : Int), .int (w ^ h), .int (xs.length : Int)] ++ (List.range (h + 1)).flatMap (toldLev w h xs s0) ++ [s1, s2].flatMap (toldNum w h xs) ++
  [.list [dI xs, dI (stretchL' xs s1 s2), .int ((stretchL' xs s2 s1).length : Int)]] ++ if 0 < xs.length then toldAt w h xs (s0 % (xs.length : Int)).toNat else []
/-! ### every other number, and the rest -/
theorem mem_range2 {s n : Int} (hs : 0 ≤ s) (hn : 0 ≤ n) {i : Nat} : i ∈ sliceRange s n 2 ↔ s ≤ (i : Int) ∧ (i : Int) < n ∧ ((i : Int) - s) % 2 = 0 := by
  unfold sliceRange
  rw [List.mem_map]
  have e : (if (2 : Int) > 0 then (if s < n then (n - s + 2 - 1) / 2 else 0) else (if s > n then (s - n - 2 - 1) / (-2) else 0)) = if s < n then (n - s + 2 - 1) / 2 else 0 := if_pos (by decide)
  rw [e]
  constructor
  · rintro ⟨k, hk, rfl⟩
    have hk2 := List.mem_range.mp hk
    by_cases c : s < n
    · rw [if_pos c] at hk2
      omega
    · rw [if_neg c] at hk2
      exact absurd hk2 (Nat.not_lt_zero _)
  · rintro ⟨h1, h2, h3⟩
    refine ⟨(((i : Int) - s) / 2).toNat, List.mem_range.mpr ?_, ?_⟩
    · rw [if_pos (by omega)]
      omega
    · omega
theorem pick_map (xs : List Int) : ∀ idx : List Nat, (∀ i ∈ idx, i < xs.length) → idx.filterMap (xs[·]?) = idx.map fun k => xs.getD k 0
  | [], _ => rfl
  | i :: idx, h => by
    have hi := h i List.mem_cons_self
    rw [List.filterMap_cons, List.getElem?_eq_getElem hi, List.map_cons, getD_eq hi, pick_map xs idx fun j hj => h j (List.mem_cons_of_mem _ hj)]
theorem all_at (xs : List Int) : (List.range xs.length).filterMap (xs[·]?) = xs := by
  rw [pick_map xs _ fun i hi => List.mem_range.mp hi, range_getD]
theorem weave_perm (xs : List Int) : (stepI xs none none 2 ++ stepI xs (some 1) none 2).Perm xs := by
  have b0 : sliceBounds none none (some 2) xs.length = (0, (xs.length : Int), 2) := rfl
  have b1 : sliceBounds (some 1) none (some 2) xs.length = (max 0 (min 1 (xs.length : Int)), (xs.length : Int), 2) := rfl
  unfold stepI
  rw [b0, b1, ← List.filterMap_append]
  have s1 : 0 ≤ max 0 (min 1 (xs.length : Int)) := Int.le_max_left _ _
  have p : (sliceRange 0 (xs.length : Int) 2 ++ sliceRange (max 0 (min 1 (xs.length : Int))) (xs.length : Int) 2).Perm (List.range xs.length) := by
    refine (List.perm_ext_iff_of_nodup ?_ List.nodup_range).mpr fun i => ?_
    · refine List.nodup_append.mpr ⟨(range_up (Int.le_refl 0) (by decide)).imp fun h => Nat.ne_of_lt h, (range_up s1 (by decide)).imp fun h => Nat.ne_of_lt h, fun a ha b hb e => ?_⟩
      subst e
      have z0 := (mem_range2 (Int.le_refl 0) (Int.natCast_nonneg _)).mp ha
      have z1 := (mem_range2 s1 (Int.natCast_nonneg _)).mp hb
      omega
    · rw [List.mem_append, mem_range2 (Int.le_refl 0) (Int.natCast_nonneg _), mem_range2 s1 (Int.natCast_nonneg _), List.mem_range]
      omega
  have q := p.filterMap (xs[·]?)
  rw [all_at] at q
  exact q
theorem cut_drop (xs : List Int) (k : Nat) : cutV (xs.map V.int) (some (k : Int)) none = (xs.drop k).map V.int := by
  unfold cutV
  rw [HT.sIx_nat, HT.sIx_none, List.length_map, List.map_drop]
  rcases Nat.le_total k xs.length with c | c
  · rw [Nat.min_eq_left c, List.take_of_length_le (by rw [List.length_drop, List.length_map]; omega)]
  · rw [Nat.min_eq_right c, List.drop_eq_nil_of_le (by rw [List.length_map]; omega), List.drop_eq_nil_of_le (by rw [List.length_map]; omega), List.take_nil]
theorem cut_take (xs : List Int) (k : Nat) : cutV (xs.map V.int) none (some (k : Int)) = (xs.take k).map V.int := by
  unfold cutV
  rw [HT.sIx_nat, HT.sIx_none, List.length_map, List.drop_zero, List.map_take]
  rcases Nat.le_total k xs.length with c | c
  · rw [Nat.min_eq_left c, Nat.sub_zero]
  · rw [Nat.min_eq_right c, Nat.sub_zero, List.take_of_length_le (by rw [List.length_map]; omega), List.take_of_length_le (by rw [List.length_map]; omega)]
/-- two parts of a row, the one poured into the other -/
theorem pour_back {xs ys zs : List Int} (r : xs.Pairwise (· < ·)) (sy : ys.Sublist xs) (sz : zs.Sublist xs) (p : (ys ++ zs).Perm xs) : pourL zs ys = xs ∧ ∀ z ∈ zs, z ∉ ys := by
  have nod : (ys ++ zs).Nodup := p.nodup_iff.mpr (rise_nodup r)
  have dis : ∀ z ∈ zs, z ∉ ys := fun z hz hy => (List.nodup_append.mp nod).2.2 z hy z hz rfl
  refine ⟨?_, dis⟩
  have q := pourL_perm (rise_nodup (r.sublist sz)) dis
  exact PySem.W.ksm_same (q.trans (List.perm_append_comm.trans p)) ((pourL_rise (r.sublist sy)).imp fun h => Int.le_of_lt h) (r.imp fun h => Int.le_of_lt h)
theorem shaped_told (w : Int) (h : Nat) (xs : List Int) (s0 s1 s2 : Int) : SeqAt.shaped (.list (toldD w h xs s0 s1 s2)) = true := by
  have di : ∀ ns : List Int, (dI ns).canLay0 = true ∧ (dI ns).depth ≤ 1 := fun ns => ⟨canLay_ints ns, by
    show PyData.depthAll (ns.map PyData.int) + 1 ≤ 1
    rw [depth_ints]
    exact Nat.le_refl _⟩
  have dt : ∀ ts : List (Nat × Int), (PyData.list (ts.map stD)).canLay0 = true ∧ (PyData.list (ts.map stD)).depth ≤ 2 := fun ts => by
    have hst : ∀ d ∈ ts.map stD, d.canLay0 = true ∧ d.depth ≤ 1 := fun d hd => by
      obtain ⟨s, _, rfl⟩ := List.mem_map.mp hd
      exact ⟨rfl, Nat.le_refl _⟩
    exact ⟨canLayAll_of fun d hd => (hst d hd).1, Nat.succ_le_succ (depthAll_le fun d hd => (hst d hd).2)⟩
  have dl : ∀ {ds : List PyData}, (∀ d ∈ ds, d.canLay0 = true ∧ d.depth ≤ 2) → (PyData.list ds).canLay0 = true ∧ (PyData.list ds).depth ≤ 3 := fun {ds} hd => ⟨canLayAll_of fun d h => (hd d h).1, Nat.succ_le_succ (depthAll_le fun d h => (hd d h).2)⟩
  have int : ∀ i : Int, (PyData.int i).canLay0 = true ∧ (PyData.int i).depth ≤ 2 := fun i => ⟨rfl, Nat.zero_le _⟩
  have opt : ∀ o : Option Int, (dO o).canLay0 = true ∧ (dO o).depth ≤ 2 := fun o => by
    cases o <;> exact ⟨rfl, Nat.zero_le _⟩
  have up : ∀ {d : PyData}, d.canLay0 = true ∧ d.depth ≤ 1 → d.canLay0 = true ∧ d.depth ≤ 2 := fun h => ⟨h.1, Nat.le_succ_of_le h.2⟩
  have up3 : ∀ {d : PyData}, d.canLay0 = true ∧ d.depth ≤ 2 → d.canLay0 = true ∧ d.depth ≤ 3 := fun h => ⟨h.1, Nat.le_succ_of_le h.2⟩
  refine shaped_list 3 (fun d hd => ?_) (by decide)
  unfold toldD at hd
  simp only [List.mem_append, List.mem_flatMap, List.mem_cons, List.not_mem_nil, or_false] at hd
  rcases hd with (((hd | ⟨l, _, hd⟩) | ⟨n, _, hd⟩) | hd) | hd
  · rcases hd with rfl | rfl | rfl | rfl <;> exact up3 (int _)
  · unfold toldLev at hd
    rcases List.mem_cons.mp hd with rfl | hd
    · exact up3 (up (di _))
    · split at hd
      · rw [List.mem_singleton.mp hd]
        refine dl fun d hd => ?_
        obtain ⟨n, _, rfl⟩ := List.mem_map.mp hd
        unfold aheadD
        cases nextO w l xs n <;> exact ⟨rfl, Nat.le_succ _⟩
      · cases hd
  · unfold toldNum at hd
    rcases List.mem_cons.mp hd with rfl | hd
    · refine dl fun d hd => ?_
      simp only [List.mem_cons, List.not_mem_nil, or_false] at hd
      rcases hd with rfl | rfl | rfl | rfl
      · exact ⟨rfl, Nat.zero_le _⟩
      · exact opt _
      · exact opt _
      · exact int _
    · rw [List.mem_singleton.mp hd]
      exact up3 (dt _)
  · rw [hd]
    refine dl fun d hd => ?_
    simp only [List.mem_cons, List.not_mem_nil, or_false] at hd
    rcases hd with rfl | rfl | rfl
    · exact up (di _)
    · exact up (di _)
    · exact int _
  · split at hd
    · unfold toldAt at hd
      simp only [List.mem_cons, List.not_mem_nil, or_false] at hd
      rcases hd with rfl | rfl
      · refine dl fun d hd => ?_
        simp only [List.mem_cons, List.not_mem_nil, or_false] at hd
        rcases hd with rfl | rfl
        · exact int _
        · exact dt _
      · refine dl fun d hd => ?_
        simp only [List.mem_cons, List.not_mem_nil, or_false] at hd
        rcases hd with rfl | rfl <;> exact int _
    · cases hd
/-- two things that were told the same -/
theorem told_eq {K : PySem.W.Frag} {H : Hp} {B B' : Addr → Prop} {r r' : Addr} {w : Int} {h : Nat} {xs : List Int} {s0 s1 s2 : Int} {Q : VK} (a : Dh (outF B H) (.ref r) (.list (toldD w h xs s0 s1 s2))) (b : Dh (outF B' H) (.ref r') (.list (toldD w h xs s0 s1 s2))) (q : Q (.bl true) H) : rEqD K (.ref r) (.ref r') H Q :=
  eqD_same (a.same own_sub).dp (b.same own_sub).dp (shaped_told w h xs s0 s1 s2) q
theorem told_ne {K : PySem.W.Frag} {H : Hp} {B B' : Addr → Prop} {r r' : Addr} {w : Int} {h : Nat} {xs : List Int} {s0 s1 s2 : Int} {Q : VK} (a : Dh (outF B H) (.ref r) (.list (toldD w h xs s0 s1 s2))) (b : Dh (outF B' H) (.ref r') (.list (toldD w h xs s0 s1 s2))) (q : Q (.bl false) H) : rNeD K (.ref r) (.ref r') H Q :=
  neD_same (a.same own_sub).dp (b.same own_sub).dp (shaped_told w h xs s0 s1 s2) q
/-! ### what may follow in one way or another -/
theorem both {I R0 : Hp → Prop} {goal : Prop} (main : (∀ H2, I H2 → R0 H2) → goal) (cont : ∀ H2, I H2 → R0 H2) : goal := main cont
/-- data of tuples, none of which is in the bag -/
theorem dh_flat {B : Addr → Prop} {G H' : Hp} (sub : Same G H') (nb : ∀ a xs, G a = some (.tup xs) → ¬ B a) : ∀ {vs : List V} {ds : List PyData}, (∀ d ∈ ds, ∃ es, d = .tuple es ∧ ∀ e ∈ es, e = .none ∨ ∃ i, e = .int i) → DhAll G vs ds → DhAll (outF B H') vs ds
  | [], [], _, .nil => .nil
  | v :: vs, d :: ds, h, .cons hd r => by
    refine .cons ?_ (dh_flat sub nb (fun x hx => h x (List.mem_cons_of_mem _ hx)) r)
    obtain ⟨es, rfl, hes⟩ := h d List.mem_cons_self
    cases hd with
    | @tup a xs _ e he =>
      refine .tup (by rw [outF_out (nb a xs e)]; exact sub _ _ e) ?_
      have key : ∀ {xs : List V} {es : List PyData}, (∀ e ∈ es, e = .none ∨ ∃ i, e = .int i) → DhAll G xs es → DhAll (outF B H') xs es := by
        intro xs
        induction xs with
        | nil =>
          intro es _ h
          cases h
          exact .nil
        | cons x xs ih =>
          intro es hes h
          cases h with
          | cons h1 h2 =>
            refine .cons ?_ (ih (fun e he => hes e (List.mem_cons_of_mem _ he)) h2)
            rcases hes _ List.mem_cons_self with z | ⟨i, z⟩
            · subst z
              cases h1
              exact .non
            · subst z
              cases h1
              exact .int _
      exact key hes he
theorem chs_flat {ls : List Nat} {f g : Nat → Option Int} : ∀ d ∈ ls.map fun l => dCh l (f l) (g l), ∃ es, d = .tuple es ∧ ∀ e ∈ es, e = .none ∨ ∃ i, e = .int i := fun d hd => by
  obtain ⟨l, _, rfl⟩ := List.mem_map.mp hd
  have o : ∀ o : Option Int, dO o = .none ∨ ∃ i, dO o = .int i := fun o => by
    cases o with
    | none => exact .inl rfl
    | some i => exact .inr ⟨i, rfl⟩
  refine ⟨_, rfl, fun e he => ?_⟩
  rcases List.mem_cons.mp he with z | he
  · exact .inr ⟨_, z⟩
  rcases List.mem_cons.mp he with z | he
  · rw [z]
    exact o _
  · rw [List.mem_singleton.mp he]
    exact o _
/-- what a deed on one ladder tells is no other ladder's -/
theorem deed_data {K : PySem.W.Frag} {C : Addr} {R : Rep K C} {H H' G' : Hp} {p : Addr} {w : Int} {h : Nat} {xs : List Int} {F F' B : Addr → Prop} {r : Addr} {vs : List V} {ds : List PyData} (bg : Bag B H) (apart : ∀ b, F b → ¬ B b) (v : View R G' H' p w h xs F') (s : Same (outF F H) G') (nr : outF F H r = none) (hr : G' r = some (.lst vs))
    (fl : ∀ d ∈ ds, ∃ es, d = .tuple es ∧ ∀ e ∈ es, e = .none ∨ ∃ i, e = .int i) (d : DhAll G' vs ds) : Dh (outF B H') (.ref r) (.list ds) := by
  have key : ∀ b o, B b → H b = some o → G' b = some o := fun b o hb e => s b o (by rw [outF_out fun f => apart b f hb]; exact e)
  refine .lst ?_ (dh_flat v.sub (fun a us e hb => ?_) fl d)
  · have nB : ¬ B r := fun hb => by
      obtain ⟨o, e, _⟩ := bg r hb
      rw [outF_out fun f => apart r f hb, e] at nr
      cases nr
    rw [outF_out nB]
    exact v.sub _ _ hr
  · obtain ⟨o, eo, n⟩ := bg a hb
    rw [key a o hb eo] at e
    exact n us (Option.some.inj e)
theorem insR_perm' {n : Int} {xs : List Int} (r : xs.Pairwise (· < ·)) : ((xs.filter fun x => !decide (V.int x = V.int n)) ++ [n]).Perm (insR n xs) := by
  have m1 : ∀ x, x ∈ (xs.filter fun x => !decide (V.int x = V.int n)) ↔ x ∈ xs ∧ x ≠ n := fun x => by
    rw [List.mem_filter, Bool.not_eq_true', decide_eq_false_iff_not]
    exact ⟨fun h => ⟨h.1, fun e => h.2 (congrArg V.int e)⟩, fun h => ⟨h.1, fun e => h.2 (V.int.inj e)⟩⟩
  refine (List.perm_ext_iff_of_nodup ?_ (rise_nodup (insR_rise r))).mpr fun x => ?_
  · refine List.nodup_append.mpr ⟨(rise_nodup r).filter _, List.nodup_cons.mpr ⟨List.not_mem_nil, List.nodup_nil⟩, fun a ha b hb e => ?_⟩
    rw [List.mem_singleton.mp hb] at e
    exact ((m1 a).mp ha).2 e
  · rw [List.mem_append, m1, List.mem_singleton, mem_insR]
    exact ⟨fun h => h.elim .inr .inl, fun h => h.elim .inr .inl⟩
theorem sort_same {xs ys : List Int} (p : ys.Perm xs) (a : ys.Pairwise (· ≤ ·)) (r : xs.Pairwise (· < ·)) : ys = xs := PySem.W.ksm_same p a (r.imp fun h => Int.le_of_lt h)
theorem insR_same {n : Int} {xs : List Int} (r : xs.Pairwise (· < ·)) (h : n ∈ xs) : insR n xs = xs := by
  refine sort_same ?_ ((insR_rise r).imp fun h => Int.le_of_lt h) r
  refine (List.perm_ext_iff_of_nodup (rise_nodup (insR_rise r)) (rise_nodup r)).mpr fun x => ?_
  rw [mem_insR]
  refine ⟨fun m => m.elim (fun e => e ▸ h) fun m => m.1, fun m => ?_⟩
  by_cases c : x = n
  · exact .inl c
  · exact .inr ⟨m, c⟩
theorem insR_rem {n : Int} {xs : List Int} (r : xs.Pairwise (· < ·)) (h : n ∈ xs) : insR n (remR n xs) = xs := by
  refine sort_same ?_ ((insR_rise (r.filter _)).imp fun h => Int.le_of_lt h) r
  refine (List.perm_ext_iff_of_nodup (rise_nodup (insR_rise (r.filter _))) (rise_nodup r)).mpr fun x => ?_
  show x ∈ insR n (remR n xs) ↔ _
  rw [mem_insR, mem_remR]
  refine ⟨fun m => m.elim (fun e => e ▸ h) fun m => m.1.1, fun m => ?_⟩
  by_cases c : x = n
  · exact .inl c
  · exact .inr ⟨⟨m, c⟩, c⟩
theorem remR_ins {n : Int} {xs : List Int} (r : xs.Pairwise (· < ·)) (h : n ∉ xs) : remR n (insR n xs) = xs := by
  refine sort_same ?_ (((insR_rise r).filter _).imp fun h => Int.le_of_lt h) r
  refine (List.perm_ext_iff_of_nodup (rise_nodup ((insR_rise r).filter _)) (rise_nodup r)).mpr fun x => ?_
  show x ∈ remR n (insR n xs) ↔ _
  rw [mem_remR, mem_insR]
  refine ⟨fun m => m.1.elim (fun e => absurd e m.2) fun q => q.1, fun m => ?_⟩
  have c : x ≠ n := fun e => h (e ▸ m)
  exact ⟨.inr ⟨m, c⟩, c⟩
theorem remR_none {n : Int} {xs : List Int} (h : n ∉ xs) : remR n xs = xs := List.filter_eq_self.mpr fun x hx => by
  have c : x ≠ n := fun e => h (e ▸ hx)
  rw [Bool.not_eq_true', decide_eq_false_iff_not]
  exact c
theorem filt_rem (n : Int) (xs : List Int) : (xs.filter fun x => !decide (V.int x = V.int n)) = remR n xs := List.filter_congr fun x _ => by
  by_cases c : x = n
  · rw [decide_eq_true c, decide_eq_true (congrArg V.int c)]
  · rw [decide_eq_false c, decide_eq_false fun z => c (V.int.inj z)]
theorem remR_head {xs : List Int} (r : xs.Pairwise (· < ·)) (h : 0 < xs.length) : remR (xs.getD 0 0) xs = xs.drop 1 := by
  cases xs with
  | nil => exact absurd h (Nat.lt_irrefl 0)
  | cons x xs =>
    show (List.filter (fun y => !decide (y = x)) (x :: xs)) = xs
    rw [List.filter_cons, if_neg (by simp)]
    refine List.filter_eq_self.mpr fun y hy => ?_
    have := (List.pairwise_cons.mp r).1 y hy
    rw [Bool.not_eq_true', decide_eq_false_iff_not]
    omega
theorem cut_pour {xs : List Int} (r : xs.Pairwise (· < ·)) (k : Int) : pourL (xs.filter fun x => decide (k ≤ x)) (xs.filter fun x => decide (x < k)) = xs ∧ ∀ z ∈ (xs.filter fun x => decide (k ≤ x)), z ∉ (xs.filter fun x => decide (x < k)) := by
  refine pour_back r List.filter_sublist List.filter_sublist ?_
  have e : (xs.filter fun x => decide (k ≤ x)) = xs.filter fun x => !decide (x < k) := List.filter_congr fun x _ => by
    by_cases c : x < k
    · rw [decide_eq_true c, decide_eq_false (by omega)]
      rfl
    · rw [decide_eq_false c, decide_eq_true (by omega)]
      rfl
  rw [e]
  exact List.filter_append_perm _ _
theorem Frame.cut {F F' F2 : Addr → Prop} {H H' : Hp} (f : Frame F F' H H') (n : ∀ b o, ¬ F b → H b = some o → ¬ F2 b) : Frame F (Sk.uni F' F2) H H' := fun b o nb e => by
  have z := f b o nb e
  exact ⟨z.1, fun q => q.elim z.2 (n b o nb e)⟩
theorem insR_last {n : Int} {xs : List Int} (h : ∀ x ∈ xs, x < n) : insR n xs = xs ++ [n] := by
  unfold insR
  rw [List.filter_eq_self.mpr fun x hx => decide_eq_true (h x hx), List.filter_eq_nil_iff.mpr fun x hx => by
    have := h x hx
    rw [decide_eq_false (by omega)]
    decide]
theorem rise_take {zs : List Int} (r : zs.Pairwise (· < ·)) {i : Nat} (h : i < zs.length) : insR (zs.getD i 0) (zs.take i) = zs.take (i + 1) := by
  rw [insR_last fun x hx => ?_, List.take_succ, List.getElem?_eq_getElem h, getD_eq h]
  · rfl
  · obtain ⟨j, hj, e⟩ := List.mem_take_iff_getElem.mp hx
    have jl : j < zs.length := by omega
    rw [← e, ← getD_eq jl]
    exact rise_getD r (by omega) h
/-- without those of another row -/
def lessL (ls xs : List Int) : List Int := xs.filter fun x => !decide (x ∈ ls)
theorem less_next {xs ls : List Int} {i : Nat} (h : i < ls.length) : remR (ls.getD i 0) (lessL (ls.take i) xs) = lessL (ls.take (i + 1)) xs := by
  unfold remR lessL
  rw [List.filter_filter]
  refine List.filter_congr fun x _ => ?_
  rw [List.take_succ, List.getElem?_eq_getElem h, getD_eq h]
  show (!decide (x = ls[i]) && !decide (x ∈ ls.take i)) = !decide (x ∈ ls.take i ++ [ls[i]])
  by_cases c1 : x = ls[i]
  · rw [decide_eq_true c1, decide_eq_true (show x ∈ ls.take i ++ [ls[i]] from List.mem_append_right _ (List.mem_singleton.mpr c1))]
    rfl
  · by_cases c2 : x ∈ ls.take i
    · rw [decide_eq_true c2, decide_eq_true (List.mem_append_left _ c2)]
      simp
    · rw [decide_eq_false c1, decide_eq_false c2, decide_eq_false (fun m => by
        rcases List.mem_append.mp m with m | m
        · exact c2 m
        · exact c1 (List.mem_singleton.mp m))]
      rfl
theorem less_cut (xs : List Int) (k : Int) : lessL (xs.filter fun x => decide (k ≤ x)) xs = xs.filter fun x => decide (x < k) := by
  unfold lessL
  refine List.filter_congr fun x hx => ?_
  by_cases c : x < k
  · rw [decide_eq_true c, decide_eq_false (fun m => by
      have := of_decide_eq_true (List.mem_filter.mp m).2
      omega)]
    rfl
  · rw [decide_eq_false c, decide_eq_true (List.mem_filter.mpr ⟨hx, decide_eq_true (by omega)⟩)]
    rfl
theorem less_nil (xs : List Int) : lessL [] xs = xs := List.filter_eq_self.mpr fun x _ => by simp
structure Txt (K : PySem.W.Frag) (mg : Str → Option Value) : Type where
  f_power : Addr
  fd_power : FuncData
  F_power : Fun K "power" "power" s_power f_power fd_power
  bd_power : Binds K fd_power ["width", "level"] []
  g_power : mg "power" = some (.ref f_power)
  f_block : Addr
  fd_block : FuncData
  F_block : Fun K "block" "block" s_block f_block fd_block
  bd_block : Binds K fd_block ["width", "level", "number"] []
  g_block : mg "block" = some (.ref f_block)
  f_thinned : Addr
  fd_thinned : FuncData
  F_thinned : Fun K "thinned" "thinned" s_thinned f_thinned fd_thinned
  bd_thinned : Binds K fd_thinned ["width", "level", "row"] []
  g_thinned : mg "thinned" = some (.ref f_thinned)
  f_tall : Addr
  fd_tall : FuncData
  F_tall : Fun K "tall" "tall" s_tall f_tall fd_tall
  bd_tall : Binds K fd_tall ["width", "high", "before", "number"] []
  g_tall : mg "tall" = some (.ref f_tall)
  f_ladder_init : Addr
  fd_ladder_init : FuncData
  F_ladder_init : Fun K "__init__" "Ladder.__init__" s_ladder_init f_ladder_init fd_ladder_init
  bd_ladder_init : Binds K fd_ladder_init ["self", "width", "high"] []
  f_ladder_put : Addr
  fd_ladder_put : FuncData
  F_ladder_put : Fun K "put" "Ladder.put" s_ladder_put f_ladder_put fd_ladder_put
  bd_ladder_put : Binds K fd_ladder_put ["self", "number"] []
  f_ladder_take : Addr
  fd_ladder_take : FuncData
  F_ladder_take : Fun K "take" "Ladder.take" s_ladder_take f_ladder_take fd_ladder_take
  bd_ladder_take : Binds K fd_ladder_take ["self", "number"] []
  f_ladder_has : Addr
  fd_ladder_has : FuncData
  F_ladder_has : Fun K "has" "Ladder.has" s_ladder_has f_ladder_has fd_ladder_has
  bd_ladder_has : Binds K fd_ladder_has ["self", "number"] []
  f_ladder_row : Addr
  fd_ladder_row : FuncData
  F_ladder_row : Fun K "row" "Ladder.row" s_ladder_row f_ladder_row fd_ladder_row
  bd_ladder_row : Binds K fd_ladder_row ["self"] []
  f_ladder_level : Addr
  fd_ladder_level : FuncData
  F_ladder_level : Fun K "level" "Ladder.level" s_ladder_level f_ladder_level fd_ladder_level
  bd_ladder_level : Binds K fd_ladder_level ["self", "level"] []
  f_ladder_ahead : Addr
  fd_ladder_ahead : FuncData
  F_ladder_ahead : Fun K "ahead" "Ladder.ahead" s_ladder_ahead f_ladder_ahead fd_ladder_ahead
  bd_ladder_ahead : Binds K fd_ladder_ahead ["self", "level", "number"] []
  f_ladder_trail : Addr
  fd_ladder_trail : FuncData
  F_ladder_trail : Fun K "trail" "Ladder.trail" s_ladder_trail f_ladder_trail fd_ladder_trail
  bd_ladder_trail : Binds K fd_ladder_trail ["self", "number"] []
  f_ladder_below : Addr
  fd_ladder_below : FuncData
  F_ladder_below : Fun K "below" "Ladder.below" s_ladder_below f_ladder_below fd_ladder_below
  bd_ladder_below : Binds K fd_ladder_below ["self", "number"] []
  f_ladder_above : Addr
  fd_ladder_above : FuncData
  F_ladder_above : Fun K "above" "Ladder.above" s_ladder_above f_ladder_above fd_ladder_above
  bd_ladder_above : Binds K fd_ladder_above ["self", "number"] []
  f_ladder_place : Addr
  fd_ladder_place : FuncData
  F_ladder_place : Fun K "place" "Ladder.place" s_ladder_place f_ladder_place fd_ladder_place
  bd_ladder_place : Binds K fd_ladder_place ["self", "number"] []
  f_ladder_at : Addr
  fd_ladder_at : FuncData
  F_ladder_at : Fun K "at" "Ladder.at" s_ladder_at f_ladder_at fd_ladder_at
  bd_ladder_at : Binds K fd_ladder_at ["self", "place"] []
  f_ladder_way : Addr
  fd_ladder_way : FuncData
  F_ladder_way : Fun K "way" "Ladder.way" s_ladder_way f_ladder_way fd_ladder_way
  bd_ladder_way : Binds K fd_ladder_way ["self", "place"] []
  f_ladder_stretch : Addr
  fd_ladder_stretch : FuncData
  F_ladder_stretch : Fun K "stretch" "Ladder.stretch" s_ladder_stretch f_ladder_stretch fd_ladder_stretch
  bd_ladder_stretch : Binds K fd_ladder_stretch ["self", "low", "high"] []
  f_ladder_counted : Addr
  fd_ladder_counted : FuncData
  F_ladder_counted : Fun K "counted" "Ladder.counted" s_ladder_counted f_ladder_counted fd_ladder_counted
  bd_ladder_counted : Binds K fd_ladder_counted ["self", "low", "high"] []
  f_ladder_check_number : Addr
  fd_ladder_check_number : FuncData
  F_ladder_check_number : Fun K "_check_number" "Ladder._check_number" s_ladder_check_number f_ladder_check_number fd_ladder_check_number
  bd_ladder_check_number : Binds K fd_ladder_check_number ["self", "number"] []
  f_ladder_check_end : Addr
  fd_ladder_check_end : FuncData
  F_ladder_check_end : Fun K "_check_end" "Ladder._check_end" s_ladder_check_end f_ladder_check_end fd_ladder_check_end
  bd_ladder_check_end : Binds K fd_ladder_check_end ["self", "number"] []
  f_ladder_check_level : Addr
  fd_ladder_check_level : FuncData
  F_ladder_check_level : Fun K "_check_level" "Ladder._check_level" s_ladder_check_level f_ladder_check_level fd_ladder_check_level
  bd_ladder_check_level : Binds K fd_ladder_check_level ["self", "level"] []
  f_ladder_check_place : Addr
  fd_ladder_check_place : FuncData
  F_ladder_check_place : Fun K "_check_place" "Ladder._check_place" s_ladder_check_place f_ladder_check_place fd_ladder_check_place
  bd_ladder_check_place : Binds K fd_ladder_check_place ["self", "place"] []
  f_ladder_spot : Addr
  fd_ladder_spot : FuncData
  F_ladder_spot : Fun K "_spot" "Ladder._spot" s_ladder_spot f_ladder_spot fd_ladder_spot
  bd_ladder_spot : Binds K fd_ladder_spot ["self", "number"] []
  f_ladder_at_or_none : Addr
  fd_ladder_at_or_none : FuncData
  F_ladder_at_or_none : Fun K "_at_or_none" "Ladder._at_or_none" s_ladder_at_or_none f_ladder_at_or_none fd_ladder_at_or_none
  bd_ladder_at_or_none : Binds K fd_ladder_at_or_none ["self", "spot"] []
  f_ladder_before : Addr
  fd_ladder_before : FuncData
  F_ladder_before : Fun K "_before" "Ladder._before" s_ladder_before f_ladder_before fd_ladder_before
  bd_ladder_before : Binds K fd_ladder_before ["self", "spot"] []
  f_ladder_begin : Addr
  fd_ladder_begin : FuncData
  F_ladder_begin : Fun K "_begin" "Ladder._begin" s_ladder_begin f_ladder_begin fd_ladder_begin
  bd_ladder_begin : Binds K fd_ladder_begin ["self", "level", "number"] []
  f_ladder_reach : Addr
  fd_ladder_reach : FuncData
  F_ladder_reach : Fun K "_reach" "Ladder._reach" s_ladder_reach f_ladder_reach fd_ladder_reach
  bd_ladder_reach : Binds K fd_ladder_reach ["self", "level", "spot"] []
  f_ladder_heirs : Addr
  fd_ladder_heirs : FuncData
  F_ladder_heirs : Fun K "_heirs" "Ladder._heirs" s_ladder_heirs f_ladder_heirs fd_ladder_heirs
  bd_ladder_heirs : Binds K fd_ladder_heirs ["self", "number"] []
  f_ladder_walk : Addr
  fd_ladder_walk : FuncData
  F_ladder_walk : Fun K "_walk" "Ladder._walk" s_ladder_walk f_ladder_walk fd_ladder_walk
  bd_ladder_walk : Binds K fd_ladder_walk ["self", "last"] []
  f_cut : Addr
  fd_cut : FuncData
  F_cut : Fun K "cut" "cut" s_cut f_cut fd_cut
  bd_cut : Binds K fd_cut ["ladder", "number"] []
  g_cut : mg "cut" = some (.ref f_cut)
  f_poured : Addr
  fd_poured : FuncData
  F_poured : Fun K "poured" "poured" s_poured f_poured fd_poured
  bd_poured : Binds K fd_poured ["ladder", "other"] []
  g_poured : mg "poured" = some (.ref f_poured)
  f_l_cell_at : Addr
  fd_l_cell_at : FuncData
  F_l_cell_at : Fun K "_law_cell_at" "_law_cell_at" s_l_cell_at f_l_cell_at fd_l_cell_at
  bd_l_cell_at : Binds K fd_l_cell_at ["_law_script", "_law_k"] []
  g_l_cell_at : mg "_law_cell_at" = some (.ref f_l_cell_at)
  f_l_number : Addr
  fd_l_number : FuncData
  F_l_number : Fun K "_law_number" "_law_number" s_l_number f_l_number fd_l_number
  bd_l_number : Binds K fd_l_number ["_law_cell", "_law_limit"] []
  g_l_number : mg "_law_number" = some (.ref f_l_number)
  f_l_deed : Addr
  fd_l_deed : FuncData
  F_l_deed : Fun K "_law_deed" "_law_deed" s_l_deed f_l_deed fd_l_deed
  bd_l_deed : Binds K fd_l_deed ["_law_ladder", "_law_row", "_law_cell", "_law_limit"] []
  g_l_deed : mg "_law_deed" = some (.ref f_l_deed)
  f_l_told : Addr
  fd_l_told : FuncData
  F_l_told : Fun K "_law_told" "_law_told" s_l_told f_l_told fd_l_told
  bd_l_told : Binds K fd_l_told ["_law_ladder", "_law_spot"] []
  g_l_told : mg "_law_told" = some (.ref f_l_told)
  f_l_made : Addr
  fd_l_made : FuncData
  F_l_made : Fun K "_law_made" "_law_made" s_l_made f_l_made fd_l_made
  bd_l_made : Binds K fd_l_made ["_law_width", "_law_high", "_law_row"] []
  g_l_made : mg "_law_made" = some (.ref f_l_made)
  f_l_refused : Addr
  fd_l_refused : FuncData
  F_l_refused : Fun K "_law_refused" "_law_refused" s_l_refused f_l_refused fd_l_refused
  bd_l_refused : Binds K fd_l_refused ["_law_ladder", "_law_other"] []
  g_l_refused : mg "_law_refused" = some (.ref f_l_refused)
  f_l_refused_by_any : Addr
  fd_l_refused_by_any : FuncData
  F_l_refused_by_any : Fun K "_law_refused_by_any" "_law_refused_by_any" s_l_refused_by_any f_l_refused_by_any fd_l_refused_by_any
  bd_l_refused_by_any : Binds K fd_l_refused_by_any ["_law_ladder", "_law_number_here"] []
  g_l_refused_by_any : mg "_law_refused_by_any" = some (.ref f_l_refused_by_any)
  f_l_half : Addr
  fd_l_half : FuncData
  F_l_half : Fun K "_law_half" "_law_half" s_l_half f_l_half fd_l_half
  bd_l_half : Binds K fd_l_half ["_law_ladder", "_law_row", "_law_spot"] []
  g_l_half : mg "_law_half" = some (.ref f_l_half)
  f_l_goes_on : Addr
  fd_l_goes_on : FuncData
  F_l_goes_on : Fun K "_law_goes_on" "_law_goes_on" s_l_goes_on f_l_goes_on fd_l_goes_on
  bd_l_goes_on : Binds K fd_l_goes_on ["_law_ladder", "_law_part", "_law_row", "_law_rest", "_law_spot"] []
  g_l_goes_on : mg "_law_goes_on" = some (.ref f_l_goes_on)
  f_l_ends : Addr
  fd_l_ends : FuncData
  F_l_ends : Fun K "_law_ends" "_law_ends" s_l_ends f_l_ends fd_l_ends
  bd_l_ends : Binds K fd_l_ends ["_law_ladder", "_law_gone"] []
  g_l_ends : mg "_law_ends" = some (.ref f_l_ends)
  f_l_again : Addr
  fd_l_again : FuncData
  F_l_again : Fun K "_law_again" "_law_again" s_l_again f_l_again fd_l_again
  bd_l_again : Binds K fd_l_again ["_law_ladder", "_law_row", "_law_spot"] []
  g_l_again : mg "_law_again" = some (.ref f_l_again)
  f_l_woven : Addr
  fd_l_woven : FuncData
  F_l_woven : Fun K "_law_woven" "_law_woven" s_l_woven f_l_woven fd_l_woven
  bd_l_woven : Binds K fd_l_woven ["_law_row", "_law_whole", "_law_size", "_law_spot"] []
  g_l_woven : mg "_law_woven" = some (.ref f_l_woven)
  f_l_is_there : Addr
  fd_l_is_there : FuncData
  F_l_is_there : Fun K "_law_is_there" "_law_is_there" s_l_is_there f_l_is_there fd_l_is_there
  bd_l_is_there : Binds K fd_l_is_there ["_law_ladder", "_law_number_here"] []
  g_l_is_there : mg "_law_is_there" = some (.ref f_l_is_there)
  f_l_by_turns : Addr
  fd_l_by_turns : FuncData
  F_l_by_turns : Fun K "_law_by_turns" "_law_by_turns" s_l_by_turns f_l_by_turns fd_l_by_turns
  bd_l_by_turns : Binds K fd_l_by_turns ["_law_ladder", "_law_row", "_law_whole", "_law_spot"] []
  g_l_by_turns : mg "_law_by_turns" = some (.ref f_l_by_turns)
  f_l_mated : Addr
  fd_l_mated : FuncData
  F_l_mated : Fun K "_law_mated" "_law_mated" s_l_mated f_l_mated fd_l_mated
  bd_l_mated : Binds K fd_l_mated ["_law_other", "_law_own"] []
  g_l_mated : mg "_law_mated" = some (.ref f_l_mated)
  f_l_cut : Addr
  fd_l_cut : FuncData
  F_l_cut : Fun K "_law_cut" "_law_cut" s_l_cut f_l_cut fd_l_cut
  bd_l_cut : Binds K fd_l_cut ["_law_ladder", "_law_row", "_law_at", "_law_spot"] []
  g_l_cut : mg "_law_cut" = some (.ref f_l_cut)
  b_ValueError : mg "ValueError" = none
  b_all : mg "all" = none
  b_enumerate : mg "enumerate" = none
  b_int : mg "int" = none
  b_isinstance : mg "isinstance" = none
  b_len : mg "len" = none
  b_list : mg "list" = none
  b_min : mg "min" = none
  b_range : mg "range" = none
  b_reversed : mg "reversed" = none
  b_sorted : mg "sorted" = none
  b_tuple : mg "tuple" = none
  c_Ladder : Addr
  x_Ladder : mg "Ladder" = some (.ref c_Ladder)
  cl_Ladder : Cls K c_Ladder
  mk_Ladder : Mk K c_Ladder f_ladder_init
  m_ladder_put : Meth K c_Ladder "put" f_ladder_put
  m_ladder_take : Meth K c_Ladder "take" f_ladder_take
  m_ladder_has : Meth K c_Ladder "has" f_ladder_has
  m_ladder_row : Meth K c_Ladder "row" f_ladder_row
  m_ladder_level : Meth K c_Ladder "level" f_ladder_level
  m_ladder_ahead : Meth K c_Ladder "ahead" f_ladder_ahead
  m_ladder_trail : Meth K c_Ladder "trail" f_ladder_trail
  m_ladder_below : Meth K c_Ladder "below" f_ladder_below
  m_ladder_above : Meth K c_Ladder "above" f_ladder_above
  m_ladder_place : Meth K c_Ladder "place" f_ladder_place
  m_ladder_at : Meth K c_Ladder "at" f_ladder_at
  m_ladder_way : Meth K c_Ladder "way" f_ladder_way
  m_ladder_stretch : Meth K c_Ladder "stretch" f_ladder_stretch
  m_ladder_counted : Meth K c_Ladder "counted" f_ladder_counted
  m_ladder_check_number : Meth K c_Ladder "_check_number" f_ladder_check_number
  m_ladder_check_end : Meth K c_Ladder "_check_end" f_ladder_check_end
  m_ladder_check_level : Meth K c_Ladder "_check_level" f_ladder_check_level
  m_ladder_check_place : Meth K c_Ladder "_check_place" f_ladder_check_place
  m_ladder_spot : Meth K c_Ladder "_spot" f_ladder_spot
  m_ladder_at_or_none : Meth K c_Ladder "_at_or_none" f_ladder_at_or_none
  m_ladder_before : Meth K c_Ladder "_before" f_ladder_before
  m_ladder_begin : Meth K c_Ladder "_begin" f_ladder_begin
  m_ladder_reach : Meth K c_Ladder "_reach" f_ladder_reach
  m_ladder_heirs : Meth K c_Ladder "_heirs" f_ladder_heirs
  m_ladder_walk : Meth K c_Ladder "_walk" f_ladder_walk
  n_Ladder_width : NoAttr K c_Ladder "width"
  n_Ladder_high : NoAttr K c_Ladder "high"
  n_Ladder_limit : NoAttr K c_Ladder "limit"
  n_Ladder_many : NoAttr K c_Ladder "many"
  n_Ladder__row : NoAttr K c_Ladder "_row"
  c_LadderError : Addr
  x_LadderError : mg "LadderError" = some (.ref c_LadderError)
  c_BadSize : Addr
  x_BadSize : mg "BadSize" = some (.ref c_BadSize)
  c_OutOfRange : Addr
  x_OutOfRange : mg "OutOfRange" = some (.ref c_OutOfRange)
  c_Present : Addr
  x_Present : mg "Present" = some (.ref c_Present)
  c_Missing : Addr
  x_Missing : mg "Missing" = some (.ref c_Missing)
  c_NoLevel : Addr
  x_NoLevel : mg "NoLevel" = some (.ref c_NoLevel)
  c_NoPlace : Addr
  x_NoPlace : mg "NoPlace" = some (.ref c_NoPlace)
  c_OtherSize : Addr
  x_OtherSize : mg "OtherSize" = some (.ref c_OtherSize)
  xp_BadSize : PySem.W.excIn K c_BadSize [.type "ValueError", .type "Exception", .type "BaseException", .type "object"] "ValueError.__new__" = true
  kp_BadSize : PySem.W.keepIn K (.ref c_BadSize) = true
  bp_BadSize : PySem.W.subIn K (.ref c_BadSize) (.type "BaseException") = some true
  tp_BadSize : PySem.W.typeIn K (.ref c_BadSize) = some (.type "type")
  xp_OutOfRange : PySem.W.excIn K c_OutOfRange [.type "ValueError", .type "Exception", .type "BaseException", .type "object"] "ValueError.__new__" = true
  kp_OutOfRange : PySem.W.keepIn K (.ref c_OutOfRange) = true
  bp_OutOfRange : PySem.W.subIn K (.ref c_OutOfRange) (.type "BaseException") = some true
  tp_OutOfRange : PySem.W.typeIn K (.ref c_OutOfRange) = some (.type "type")
  xp_Present : PySem.W.excIn K c_Present [.type "ValueError", .type "Exception", .type "BaseException", .type "object"] "ValueError.__new__" = true
  kp_Present : PySem.W.keepIn K (.ref c_Present) = true
  bp_Present : PySem.W.subIn K (.ref c_Present) (.type "BaseException") = some true
  tp_Present : PySem.W.typeIn K (.ref c_Present) = some (.type "type")
  xp_Missing : PySem.W.excIn K c_Missing [.type "ValueError", .type "Exception", .type "BaseException", .type "object"] "ValueError.__new__" = true
  kp_Missing : PySem.W.keepIn K (.ref c_Missing) = true
  bp_Missing : PySem.W.subIn K (.ref c_Missing) (.type "BaseException") = some true
  tp_Missing : PySem.W.typeIn K (.ref c_Missing) = some (.type "type")
  xp_NoLevel : PySem.W.excIn K c_NoLevel [.type "ValueError", .type "Exception", .type "BaseException", .type "object"] "ValueError.__new__" = true
  kp_NoLevel : PySem.W.keepIn K (.ref c_NoLevel) = true
  bp_NoLevel : PySem.W.subIn K (.ref c_NoLevel) (.type "BaseException") = some true
  tp_NoLevel : PySem.W.typeIn K (.ref c_NoLevel) = some (.type "type")
  xp_NoPlace : PySem.W.excIn K c_NoPlace [.type "ValueError", .type "Exception", .type "BaseException", .type "object"] "ValueError.__new__" = true
  kp_NoPlace : PySem.W.keepIn K (.ref c_NoPlace) = true
  bp_NoPlace : PySem.W.subIn K (.ref c_NoPlace) (.type "BaseException") = some true
  tp_NoPlace : PySem.W.typeIn K (.ref c_NoPlace) = some (.type "type")
  xp_OtherSize : PySem.W.excIn K c_OtherSize [.type "ValueError", .type "Exception", .type "BaseException", .type "object"] "ValueError.__new__" = true
  kp_OtherSize : PySem.W.keepIn K (.ref c_OtherSize) = true
  bp_OtherSize : PySem.W.subIn K (.ref c_OtherSize) (.type "BaseException") = some true
  tp_OtherSize : PySem.W.typeIn K (.ref c_OtherSize) = some (.type "type")
  exm_BadSize_OtherSize : PySem.W.exmOne K (.ref c_BadSize) (.ref c_OtherSize) = some false
  exm_BadSize_Present : PySem.W.exmOne K (.ref c_BadSize) (.ref c_Present) = some false
  exm_BadSize_OutOfRange : PySem.W.exmOne K (.ref c_BadSize) (.ref c_OutOfRange) = some false
  exm_BadSize_LadderError : PySem.W.exmOne K (.ref c_BadSize) (.ref c_LadderError) = some true
  exm_BadSize_NoPlace : PySem.W.exmOne K (.ref c_BadSize) (.ref c_NoPlace) = some false
  exm_BadSize_Missing : PySem.W.exmOne K (.ref c_BadSize) (.ref c_Missing) = some false
  kit_BadSize_ValueError : PySem.W.kitOne K (.ref c_BadSize) (.type "ValueError") = some true
  kit_BadSize_LadderError : PySem.W.kitOne K (.ref c_BadSize) (.ref c_LadderError) = some true
  ec_BadSize : ExcC K c_BadSize
  exm_OutOfRange_OtherSize : PySem.W.exmOne K (.ref c_OutOfRange) (.ref c_OtherSize) = some false
  exm_OutOfRange_Present : PySem.W.exmOne K (.ref c_OutOfRange) (.ref c_Present) = some false
  exm_OutOfRange_OutOfRange : PySem.W.exmOne K (.ref c_OutOfRange) (.ref c_OutOfRange) = some true
  exm_OutOfRange_LadderError : PySem.W.exmOne K (.ref c_OutOfRange) (.ref c_LadderError) = some true
  exm_OutOfRange_NoPlace : PySem.W.exmOne K (.ref c_OutOfRange) (.ref c_NoPlace) = some false
  exm_OutOfRange_Missing : PySem.W.exmOne K (.ref c_OutOfRange) (.ref c_Missing) = some false
  kit_OutOfRange_ValueError : PySem.W.kitOne K (.ref c_OutOfRange) (.type "ValueError") = some true
  kit_OutOfRange_LadderError : PySem.W.kitOne K (.ref c_OutOfRange) (.ref c_LadderError) = some true
  ec_OutOfRange : ExcC K c_OutOfRange
  exm_Present_OtherSize : PySem.W.exmOne K (.ref c_Present) (.ref c_OtherSize) = some false
  exm_Present_Present : PySem.W.exmOne K (.ref c_Present) (.ref c_Present) = some true
  exm_Present_OutOfRange : PySem.W.exmOne K (.ref c_Present) (.ref c_OutOfRange) = some false
  exm_Present_LadderError : PySem.W.exmOne K (.ref c_Present) (.ref c_LadderError) = some true
  exm_Present_NoPlace : PySem.W.exmOne K (.ref c_Present) (.ref c_NoPlace) = some false
  exm_Present_Missing : PySem.W.exmOne K (.ref c_Present) (.ref c_Missing) = some false
  kit_Present_ValueError : PySem.W.kitOne K (.ref c_Present) (.type "ValueError") = some true
  kit_Present_LadderError : PySem.W.kitOne K (.ref c_Present) (.ref c_LadderError) = some true
  ec_Present : ExcC K c_Present
  exm_Missing_OtherSize : PySem.W.exmOne K (.ref c_Missing) (.ref c_OtherSize) = some false
  exm_Missing_Present : PySem.W.exmOne K (.ref c_Missing) (.ref c_Present) = some false
  exm_Missing_OutOfRange : PySem.W.exmOne K (.ref c_Missing) (.ref c_OutOfRange) = some false
  exm_Missing_LadderError : PySem.W.exmOne K (.ref c_Missing) (.ref c_LadderError) = some true
  exm_Missing_NoPlace : PySem.W.exmOne K (.ref c_Missing) (.ref c_NoPlace) = some false
  exm_Missing_Missing : PySem.W.exmOne K (.ref c_Missing) (.ref c_Missing) = some true
  kit_Missing_ValueError : PySem.W.kitOne K (.ref c_Missing) (.type "ValueError") = some true
  kit_Missing_LadderError : PySem.W.kitOne K (.ref c_Missing) (.ref c_LadderError) = some true
  ec_Missing : ExcC K c_Missing
  exm_NoLevel_OtherSize : PySem.W.exmOne K (.ref c_NoLevel) (.ref c_OtherSize) = some false
  exm_NoLevel_Present : PySem.W.exmOne K (.ref c_NoLevel) (.ref c_Present) = some false
  exm_NoLevel_OutOfRange : PySem.W.exmOne K (.ref c_NoLevel) (.ref c_OutOfRange) = some false
  exm_NoLevel_LadderError : PySem.W.exmOne K (.ref c_NoLevel) (.ref c_LadderError) = some true
  exm_NoLevel_NoPlace : PySem.W.exmOne K (.ref c_NoLevel) (.ref c_NoPlace) = some false
  exm_NoLevel_Missing : PySem.W.exmOne K (.ref c_NoLevel) (.ref c_Missing) = some false
  kit_NoLevel_ValueError : PySem.W.kitOne K (.ref c_NoLevel) (.type "ValueError") = some true
  kit_NoLevel_LadderError : PySem.W.kitOne K (.ref c_NoLevel) (.ref c_LadderError) = some true
  ec_NoLevel : ExcC K c_NoLevel
  exm_NoPlace_OtherSize : PySem.W.exmOne K (.ref c_NoPlace) (.ref c_OtherSize) = some false
  exm_NoPlace_Present : PySem.W.exmOne K (.ref c_NoPlace) (.ref c_Present) = some false
  exm_NoPlace_OutOfRange : PySem.W.exmOne K (.ref c_NoPlace) (.ref c_OutOfRange) = some false
  exm_NoPlace_LadderError : PySem.W.exmOne K (.ref c_NoPlace) (.ref c_LadderError) = some true
  exm_NoPlace_NoPlace : PySem.W.exmOne K (.ref c_NoPlace) (.ref c_NoPlace) = some true
  exm_NoPlace_Missing : PySem.W.exmOne K (.ref c_NoPlace) (.ref c_Missing) = some false
  kit_NoPlace_ValueError : PySem.W.kitOne K (.ref c_NoPlace) (.type "ValueError") = some true
  kit_NoPlace_LadderError : PySem.W.kitOne K (.ref c_NoPlace) (.ref c_LadderError) = some true
  ec_NoPlace : ExcC K c_NoPlace
  exm_OtherSize_OtherSize : PySem.W.exmOne K (.ref c_OtherSize) (.ref c_OtherSize) = some true
  exm_OtherSize_Present : PySem.W.exmOne K (.ref c_OtherSize) (.ref c_Present) = some false
  exm_OtherSize_OutOfRange : PySem.W.exmOne K (.ref c_OtherSize) (.ref c_OutOfRange) = some false
  exm_OtherSize_LadderError : PySem.W.exmOne K (.ref c_OtherSize) (.ref c_LadderError) = some true
  exm_OtherSize_NoPlace : PySem.W.exmOne K (.ref c_OtherSize) (.ref c_NoPlace) = some false
  exm_OtherSize_Missing : PySem.W.exmOne K (.ref c_OtherSize) (.ref c_Missing) = some false
  kit_OtherSize_ValueError : PySem.W.kitOne K (.ref c_OtherSize) (.type "ValueError") = some true
  kit_OtherSize_LadderError : PySem.W.kitOne K (.ref c_OtherSize) (.ref c_LadderError) = some true
  ec_OtherSize : ExcC K c_OtherSize
section
variable {P : Program} {w : World} {K : PySem.W.Frag} {mg : Str → Option Value} {base : Heap}
def sp_ladder_init (T : Txt K mg) (R : Rep K T.c_Ladder) : Sp := fun vs H Q E => ∃ (H0 : Hp) (p dx : Addr) (w h : Int), vs = [.ref p, .int w, .int h] ∧ H = upd (upd H0 dx (.own p)) p (.ins T.c_Ladder dx []) ∧ H0 p = none ∧ H0 dx = none ∧ dx ≠ p ∧
  ((w < 2 ∨ 9 < w ∨ h < 1 ∨ 12 < h) → ∀ H', Same H0 H' → E (.ref T.c_BadSize) none H') ∧
  (∀ l : Nat, h = (l : Int) → 2 ≤ w → w ≤ 9 → 1 ≤ l → l ≤ 12 → ∀ H' F, R.Lad H' p w l [] F → Same H0 H' → (∀ b, F b → H0 b = none) → Q .non H')
def sp_ladder_put (T : Txt K mg) (R : Rep K T.c_Ladder) : Sp := fun vs H Q E => ∃ (p : Addr) (w : Int) (h : Nat) (xs : List Int) (F : Addr → Prop) (G : Hp) (n : Int), vs = [.ref p, .int n] ∧ View R G H p w h xs F ∧ xs.length ≤ 150 ∧
  ((n < 0 ∨ w ^ h ≤ n) → ∀ H', Same H H' → E (.ref T.c_OutOfRange) none H') ∧
  (n ∈ xs → ∀ H', Same H H' → E (.ref T.c_Present) none H') ∧
  (0 ≤ n → n < w ^ h → n ∉ xs → ∀ H' G' F' r vs, View R G' H' p w h (insR n xs) F' → Same G G' → G r = none → G' r = some (.lst vs) → DhAll G' vs (chPut w h xs n) → Q (.ref r) H')
def sp_ladder_take (T : Txt K mg) (R : Rep K T.c_Ladder) : Sp := fun vs H Q E => ∃ (p : Addr) (w : Int) (h : Nat) (xs : List Int) (F : Addr → Prop) (G : Hp) (n : Int), vs = [.ref p, .int n] ∧ View R G H p w h xs F ∧ xs.length ≤ 150 ∧
  ((n < 0 ∨ w ^ h ≤ n) → ∀ H', Same H H' → E (.ref T.c_OutOfRange) none H') ∧
  (0 ≤ n → n < w ^ h → n ∉ xs → ∀ H', Same H H' → E (.ref T.c_Missing) none H') ∧
  (n ∈ xs → ∀ H' G' F' r vs, View R G' H' p w h (remR n xs) F' → Same G G' → G r = none → G' r = some (.lst vs) → DhAll G' vs (chTake w h xs n) → Q (.ref r) H')
def sp_ladder_row (T : Txt K mg) (R : Rep K T.c_Ladder) : Sp := fun vs H Q _ => ∃ (p : Addr) (w : Int) (h : Nat) (xs : List Int) (F : Addr → Prop), vs = [.ref p] ∧ R.Lad H p w h xs F ∧ xs.length ≤ 150 ∧ ∀ H' r, Same H H' → H r = none → H' r = some (.lst (xs.map V.int)) → Q (.ref r) H'
def sp_ladder_has (T : Txt K mg) (R : Rep K T.c_Ladder) : Sp := fun vs H Q E => ∃ (p : Addr) (w : Int) (h : Nat) (xs : List Int) (F : Addr → Prop) (n : Int), vs = [.ref p, .int n] ∧ R.Lad H p w h xs F ∧ xs.length ≤ 150 ∧
  ((n < 0 ∨ w ^ h ≤ n) → ∀ H', Same H H' → E (.ref T.c_OutOfRange) none H') ∧ (0 ≤ n → n < w ^ h → ∀ H', Same H H' → Q (.bl (decide (n ∈ xs))) H')
def sp_ladder_level (T : Txt K mg) (R : Rep K T.c_Ladder) : Sp := fun vs H Q E => ∃ (p : Addr) (w : Int) (h : Nat) (xs : List Int) (F : Addr → Prop) (L : Int), vs = [.ref p, .int L] ∧ R.Lad H p w h xs F ∧ xs.length ≤ 150 ∧
  ((L < 0 ∨ (h : Int) < L) → ∀ H', Same H H' → E (.ref T.c_NoLevel) none H') ∧
  (∀ l : Nat, L = (l : Int) → l ≤ h → ∀ H' r, Same H H' → H r = none → H' r = some (.lst ((levL w l xs).map V.int)) → Q (.ref r) H')
def sp_ladder_ahead (T : Txt K mg) (R : Rep K T.c_Ladder) : Sp := fun vs H Q E => ∃ (p : Addr) (w : Int) (h : Nat) (xs : List Int) (F : Addr → Prop) (L n : Int), vs = [.ref p, .int L, .int n] ∧ R.Lad H p w h xs F ∧ xs.length ≤ 150 ∧
  ((L < 0 ∨ (h : Int) < L) → ∀ H', Same H H' → E (.ref T.c_NoLevel) none H') ∧
  (∀ l : Nat, L = (l : Int) → l ≤ h → n ∉ levL w l xs → ∀ H', Same H H' → E (.ref T.c_Missing) none H') ∧
  (∀ l : Nat, L = (l : Int) → l ≤ h → n ∈ levL w l xs → ∀ H' t, Same H H' → H t = none → H' t = some (.tup [oV (nextO w l xs n), .int (gapN w l xs n : Int)]) → Q (.ref t) H')
/-- a new list of data is handed out, which the law keeps -/
def Gives {K : PySem.W.Frag} {C : Addr} (R : Rep K C) (G H : Hp) (p : Addr) (w : Int) (h : Nat) (xs : List Int) (F : Addr → Prop) (ds : List PyData) (Q : VK) : Prop :=
  ∀ H' G' r vs, View R G' H' p w h xs F → Same G G' → Same H H' → H r = none → G r = none → G' r = some (.lst vs) → DhAll G' vs ds → Q (.ref r) H'
def sp_ladder_trail (T : Txt K mg) (R : Rep K T.c_Ladder) : Sp := fun vs H Q E => ∃ (p : Addr) (w : Int) (h : Nat) (xs : List Int) (F : Addr → Prop) (G : Hp) (n : Int), vs = [.ref p, .int n] ∧ View R G H p w h xs F ∧ xs.length ≤ 150 ∧
  ((n < 0 ∨ w ^ h ≤ n) → ∀ H', Same H H' → E (.ref T.c_OutOfRange) none H') ∧ (0 ≤ n → n < w ^ h → Gives R G H p w h xs F ((trailR w h xs n).map stD) Q)
def sp_ladder_below (T : Txt K mg) (R : Rep K T.c_Ladder) : Sp := fun vs H Q E => ∃ (p : Addr) (w : Int) (h : Nat) (xs : List Int) (F : Addr → Prop) (n : Int), vs = [.ref p, .int n] ∧ R.Lad H p w h xs F ∧ xs.length ≤ 150 ∧
  ((n < 0 ∨ w ^ h ≤ n) → ∀ H', Same H H' → E (.ref T.c_OutOfRange) none H') ∧ (0 ≤ n → n < w ^ h → ∀ H', Same H H' → Q (oV (belowEq xs n)) H')
def sp_ladder_above (T : Txt K mg) (R : Rep K T.c_Ladder) : Sp := fun vs H Q E => ∃ (p : Addr) (w : Int) (h : Nat) (xs : List Int) (F : Addr → Prop) (n : Int), vs = [.ref p, .int n] ∧ R.Lad H p w h xs F ∧ xs.length ≤ 150 ∧
  ((n < 0 ∨ w ^ h ≤ n) → ∀ H', Same H H' → E (.ref T.c_OutOfRange) none H') ∧ (0 ≤ n → n < w ^ h → ∀ H', Same H H' → Q (oV (aboveEq xs n)) H')
def sp_ladder_place (T : Txt K mg) (R : Rep K T.c_Ladder) : Sp := fun vs H Q E => ∃ (p : Addr) (w : Int) (h : Nat) (xs : List Int) (F : Addr → Prop) (n : Int), vs = [.ref p, .int n] ∧ R.Lad H p w h xs F ∧ xs.length ≤ 150 ∧
  ((n < 0 ∨ w ^ h < n) → ∀ H', Same H H' → E (.ref T.c_OutOfRange) none H') ∧ (0 ≤ n → n ≤ w ^ h → ∀ H', Same H H' → Q (.int (placeN xs n : Int)) H')
def sp_ladder_at (T : Txt K mg) (R : Rep K T.c_Ladder) : Sp := fun vs H Q E => ∃ (p : Addr) (w : Int) (h : Nat) (xs : List Int) (F : Addr → Prop) (k : Int), vs = [.ref p, .int k] ∧ R.Lad H p w h xs F ∧ xs.length ≤ 150 ∧
  ((k < 0 ∨ (xs.length : Int) ≤ k) → ∀ H', Same H H' → E (.ref T.c_NoPlace) none H') ∧ (∀ j : Nat, k = (j : Int) → j < xs.length → ∀ H', Same H H' → Q (.int (xs.getD j 0)) H')
def sp_ladder_way (T : Txt K mg) (R : Rep K T.c_Ladder) : Sp := fun vs H Q E => ∃ (p : Addr) (w : Int) (h : Nat) (xs : List Int) (F : Addr → Prop) (G : Hp) (k : Int), vs = [.ref p, .int k] ∧ View R G H p w h xs F ∧ xs.length ≤ 150 ∧
  ((k < 0 ∨ (xs.length : Int) ≤ k) → ∀ H', Same H H' → E (.ref T.c_NoPlace) none H') ∧ (∀ j : Nat, k = (j : Int) → j < xs.length → Gives R G H p w h xs F ((trailR w h xs (xs.getD j 0)).map stD) Q)
/-- the kept numbers from lo on that are below hi -/
def stretchL (xs : List Int) (lo hi : Int) : List Int := xs.filter fun x => decide (lo ≤ x) && decide (x < hi)
def sp_ladder_stretch (T : Txt K mg) (R : Rep K T.c_Ladder) : Sp := fun vs H Q E => ∃ (p : Addr) (w : Int) (h : Nat) (xs : List Int) (F : Addr → Prop) (lo hi : Int), vs = [.ref p, .int lo, .int hi] ∧ R.Lad H p w h xs F ∧ xs.length ≤ 150 ∧
  ((lo < 0 ∨ w ^ h < lo ∨ hi < 0 ∨ w ^ h < hi) → ∀ H', Same H H' → E (.ref T.c_OutOfRange) none H') ∧
  (0 ≤ lo → lo ≤ w ^ h → 0 ≤ hi → hi ≤ w ^ h → ∀ H' r, Same H H' → H r = none → H' r = some (.lst ((stretchL xs lo hi).map V.int)) → Q (.ref r) H')
def sp_ladder_counted (T : Txt K mg) (R : Rep K T.c_Ladder) : Sp := fun vs H Q E => ∃ (p : Addr) (w : Int) (h : Nat) (xs : List Int) (F : Addr → Prop) (lo hi : Int), vs = [.ref p, .int lo, .int hi] ∧ R.Lad H p w h xs F ∧ xs.length ≤ 150 ∧
  ((lo < 0 ∨ w ^ h < lo ∨ hi < 0 ∨ w ^ h < hi) → ∀ H', Same H H' → E (.ref T.c_OutOfRange) none H') ∧
  (0 ≤ lo → lo ≤ w ^ h → 0 ≤ hi → hi ≤ w ^ h → ∀ H', Same H H' → Q (.int ((stretchL xs lo hi).length : Int)) H')
def sp_poured (T : Txt K mg) (R : Rep K T.c_Ladder) : Sp := fun vs H Q E => ∃ (p q : Addr) (w w2 : Int) (h h2 : Nat) (xs ys : List Int) (F F2 : Addr → Prop), vs = [.ref p, .ref q] ∧ R.Lad H p w h xs F ∧ R.Lad H q w2 h2 ys F2 ∧ xs.length + ys.length ≤ 150 ∧
  ((w ≠ w2 ∨ h ≠ h2) → ∀ H', Same H H' → E (.ref T.c_OtherSize) none H') ∧
  (w = w2 → h = h2 → (∃ y ∈ ys, y ∈ xs) → ∀ H', Same H H' → E (.ref T.c_Present) none H') ∧
  ((∀ y ∈ ys, y ∉ xs) → ys = [] ∨ ∀ b, F b → ¬ F2 b) ∧
  (w = w2 → h = h2 → (∀ y ∈ ys, y ∉ xs) → ∀ H' F', R.Lad H' p w h (pourL ys xs) F' → Frame F F' H H' → Q .non H')
def sp_cut (T : Txt K mg) (R : Rep K T.c_Ladder) : Sp := fun vs H Q E => ∃ (p : Addr) (w : Int) (h : Nat) (xs : List Int) (F : Addr → Prop) (n : Int), vs = [.ref p, .int n] ∧ R.Lad H p w h xs F ∧ xs.length ≤ 150 ∧
  ((n < 0 ∨ w ^ h < n) → ∀ H', Same H H' → E (.ref T.c_OutOfRange) none H') ∧
  (0 ≤ n → n ≤ w ^ h → ∀ H' F' q F2, R.Lad H' p w h (xs.filter fun x => decide (x < n)) F' → R.Lad H' q w h (xs.filter fun x => decide (n ≤ x)) F2 → Frame F F' H H' → (∀ b o, ¬ F b → H b = some o → ¬ F2 b) → (∀ b, F' b → ¬ F2 b) → Q (.ref q) H')
structure Prog (P : Program) (w : World) (K : PySem.W.Frag) (mg : Str → Option Value) (base : Heap) (T : Txt K mg) (R : Rep K T.c_Ladder) : Prop where
  init : FnOk P w K mg base (L2.CX P w) 20 T.f_ladder_init T.fd_ladder_init ["self", "width", "high"] (sp_ladder_init T R)
  put : FnOk P w K mg base (L2.CX P w) 20 T.f_ladder_put T.fd_ladder_put ["self", "number"] (sp_ladder_put T R)
  take : FnOk P w K mg base (L2.CX P w) 20 T.f_ladder_take T.fd_ladder_take ["self", "number"] (sp_ladder_take T R)
  row : FnOk P w K mg base CX0 20 T.f_ladder_row T.fd_ladder_row ["self"] (sp_ladder_row T R)
  has : FnOk P w K mg base (L2.CX P w) 20 T.f_ladder_has T.fd_ladder_has ["self", "number"] (sp_ladder_has T R)
  level : FnOk P w K mg base (L2.CX P w) 20 T.f_ladder_level T.fd_ladder_level ["self", "level"] (sp_ladder_level T R)
  ahead : FnOk P w K mg base (L2.CX P w) 20 T.f_ladder_ahead T.fd_ladder_ahead ["self", "level", "number"] (sp_ladder_ahead T R)
  trail : FnOk P w K mg base (L2.CX P w) 20 T.f_ladder_trail T.fd_ladder_trail ["self", "number"] (sp_ladder_trail T R)
  below : FnOk P w K mg base (L2.CX P w) 20 T.f_ladder_below T.fd_ladder_below ["self", "number"] (sp_ladder_below T R)
  above : FnOk P w K mg base (L2.CX P w) 20 T.f_ladder_above T.fd_ladder_above ["self", "number"] (sp_ladder_above T R)
  place : FnOk P w K mg base (L2.CX P w) 20 T.f_ladder_place T.fd_ladder_place ["self", "number"] (sp_ladder_place T R)
  at_ : FnOk P w K mg base (L2.CX P w) 20 T.f_ladder_at T.fd_ladder_at ["self", "place"] (sp_ladder_at T R)
  way : FnOk P w K mg base (L2.CX P w) 20 T.f_ladder_way T.fd_ladder_way ["self", "place"] (sp_ladder_way T R)
  stretch : FnOk P w K mg base (L2.CX P w) 20 T.f_ladder_stretch T.fd_ladder_stretch ["self", "low", "high"] (sp_ladder_stretch T R)
  counted : FnOk P w K mg base (L2.CX P w) 20 T.f_ladder_counted T.fd_ladder_counted ["self", "low", "high"] (sp_ladder_counted T R)
  cut_ : FnOk P w K mg base (L2.CX P w) 20 T.f_cut T.fd_cut ["ladder", "number"] (sp_cut T R)
  poured : FnOk P w K mg base (L2.CX P w) 20 T.f_poured T.fd_poured ["ladder", "other"] (sp_poured T R)
  bagOf : ∀ {H : Hp} {p : Addr} {v : Int} {h : Nat} {xs : List Int} {F : Addr → Prop}, R.Lad H p v h xs F → Bag F H
def sp_l_cell_at (T : Txt K mg) (_ : Rep K T.c_Ladder) : Sp := spCell K
def sp_l_number (T : Txt K mg) (_ : Rep K T.c_Ladder) : Sp := fun vs H Q _ => ∃ (c lim : Int), vs = [.int c, .int lim] ∧ 1 ≤ lim ∧ Q (.int (lawNum c lim)) H
def sp_law (K : PySem.W.Frag) : Sp := fun vs H Q _ => ∃ (a : Addr) (ns : List Int), vs = [.ref a] ∧ SqL K H a (ns.map V.int) ∧ ns.length ≤ 63 ∧ ∀ H', Q (.bl true) H'
def sp_l_deed (T : Txt K mg) (R : Rep K T.c_Ladder) : Sp := fun vs H Q _ => ∃ (p d : Addr) (w : Int) (h : Nat) (xs : List Int) (F : Addr → Prop) (G : Hp) (rw : List Int) (c : Int), vs = [.ref p, .ref d, .int c, .int (w ^ h)] ∧ View R G H p w h xs F ∧ G d = some (.dK (dkv rw)) ∧ rw.Perm xs ∧ xs.length ≤ 100 ∧
  ∀ H' G' F' xs2 rw2, View R G' H' p w h xs2 F' → (∀ b o, b ≠ d → G b = some o → G' b = some o) → G' d = some (.dK (dkv rw2)) → rw2.Perm xs2 → xs2.length ≤ xs.length + 1 → Q .non H'
def sp_l_told (T : Txt K mg) (R : Rep K T.c_Ladder) : Sp := fun vs H Q _ => ∃ (p s : Addr) (w : Int) (h : Nat) (xs : List Int) (F B : Addr → Prop) (s0 s1 s2 : Int), vs = [.ref p, .ref s] ∧ R.Lad H p w h xs F ∧ (∀ b, F b → B b) ∧ Bag B H ∧ SqL K H s ([s0, s1, s2].map V.int) ∧
  0 ≤ s1 ∧ s1 < w ^ h ∧ 0 ≤ s2 ∧ s2 < w ^ h ∧ xs.length ≤ 150 ∧ ∀ H' r, Same H H' → Dh (outF B H') (.ref r) (.list (toldD w h xs s0 s1 s2)) → Q (.ref r) H'
def sp_l_made (T : Txt K mg) (R : Rep K T.c_Ladder) : Sp := fun vs H Q _ => ∃ (a : Addr) (w : Int) (h : Nat) (xs : List Int), vs = [.int w, .int (h : Int), .ref a] ∧ SqL K H a (xs.map V.int) ∧ RowOk w h xs ∧ xs.length ≤ 150 ∧
  ∀ H' q F2, R.Lad H' q w h xs F2 → Same H H' → (∀ b, F2 b → H b = none) → Q (.ref q) H'
def sp_l_refused (T : Txt K mg) (R : Rep K T.c_Ladder) : Sp := fun vs H Q _ => ∃ (p q : Addr) (w w2 : Int) (h h2 : Nat) (xs ys : List Int) (F F2 : Addr → Prop), vs = [.ref p, .ref q] ∧ R.Lad H p w h xs F ∧ R.Lad H q w2 h2 ys F2 ∧ xs.length + ys.length ≤ 150 ∧
  ((w ≠ w2 ∨ h ≠ h2) → ∀ H', Same H H' → Q (.int 1) H') ∧ (w = w2 → h = h2 → (∃ y ∈ ys, y ∈ xs) → ∀ H', Same H H' → Q (.int 2) H') ∧ ((∀ y ∈ ys, y ∉ xs) → ys = [] ∨ ∀ b, F b → ¬ F2 b) ∧
  (w = w2 → h = h2 → (∀ y ∈ ys, y ∉ xs) → ∀ H' F', R.Lad H' p w h (pourL ys xs) F' → Frame F F' H H' → Q (.int 0) H')
def sp_l_refused_by_any (T : Txt K mg) (R : Rep K T.c_Ladder) : Sp := fun vs H Q _ => ∃ (p : Addr) (w : Int) (h : Nat) (xs : List Int) (F : Addr → Prop) (n : Int), vs = [.ref p, .int n] ∧ R.Lad H p w h xs F ∧ xs.length ≤ 150 ∧ (n < 0 ∨ w ^ h < n) ∧ ∀ H', Same H H' → Q (.bl true) H'
def sp_l_ends (T : Txt K mg) (R : Rep K T.c_Ladder) : Sp := fun vs H Q _ => ∃ (p : Addr) (w : Int) (h : Nat) (xs : List Int) (F : Addr → Prop) (n : Int), vs = [.ref p, .int n] ∧ R.Lad H p w h xs F ∧ xs.length ≤ 150 ∧ n ∉ xs ∧ ∀ H', Same H H' → Q (.bl true) H'
def sp_l_is_there (T : Txt K mg) (R : Rep K T.c_Ladder) : Sp := fun vs H Q _ => ∃ (p : Addr) (w : Int) (h : Nat) (xs : List Int) (F : Addr → Prop) (n : Int), vs = [.ref p, .int n] ∧ R.Lad H p w h xs F ∧ xs.length ≤ 150 ∧ n ∈ xs ∧ ∀ H', Same H H' → Q (.bl true) H'
def sp_l_half (T : Txt K mg) (R : Rep K T.c_Ladder) : Sp := fun vs H Q _ => ∃ (p a s : Addr) (w : Int) (h : Nat) (xs : List Int) (F : Addr → Prop) (s0 s1 s2 : Int), vs = [.ref p, .ref a, .ref s] ∧ R.Lad H p w h xs F ∧ SqL K H a (xs.map V.int) ∧ SqL K H s ([s0, s1, s2].map V.int) ∧
  0 ≤ s1 ∧ s1 < w ^ h ∧ 0 ≤ s2 ∧ s2 < w ^ h ∧ xs.length ≤ 60 ∧ ∀ H', Same H H' → Q (.bl true) H'
def sp_l_woven (T : Txt K mg) (R : Rep K T.c_Ladder) : Sp := fun vs H Q _ => ∃ (a b z s : Addr) (w : Int) (h : Nat) (xs : List Int) (s0 s1 s2 : Int), vs = [.ref a, .ref b, .ref z, .ref s] ∧ SqL K H a (xs.map V.int) ∧ Dh H (.ref b) (.list (toldD w h xs s0 s1 s2)) ∧ SqL K H z ([w, (h : Int)].map V.int) ∧ SqL K H s ([s0, s1, s2].map V.int) ∧
  RowOk w h xs ∧ 0 ≤ s1 ∧ s1 < w ^ h ∧ 0 ≤ s2 ∧ s2 < w ^ h ∧ xs.length ≤ 60 ∧ ∀ H', Same H H' → Q (.bl true) H'
def sp_l_by_turns (T : Txt K mg) (R : Rep K T.c_Ladder) : Sp := fun vs H Q _ => ∃ (p a b s : Addr) (w : Int) (h : Nat) (xs : List Int) (F : Addr → Prop) (s0 s1 s2 : Int), vs = [.ref p, .ref a, .ref b, .ref s] ∧ R.Lad H p w h xs F ∧ outF F H a = some (.lst (xs.map V.int)) ∧ Dh (outF F H) (.ref b) (.list (toldD w h xs s0 s1 s2)) ∧ SqL K (outF F H) s ([s0, s1, s2].map V.int) ∧
  0 ≤ s1 ∧ s1 < w ^ h ∧ 0 ≤ s2 ∧ s2 < w ^ h ∧ xs.length ≤ 60 ∧ ∀ H' F', R.Lad H' p w h xs F' → Frame F F' H H' → Q (.bl true) H'
def sp_l_again (T : Txt K mg) (R : Rep K T.c_Ladder) : Sp := fun vs H Q _ => ∃ (p a s : Addr) (w : Int) (h : Nat) (xs : List Int) (F : Addr → Prop) (s0 s1 s2 : Int), vs = [.ref p, .ref a, .ref s] ∧ R.Lad H p w h xs F ∧ SqL K (outF F H) a (xs.map V.int) ∧ SqL K (outF F H) s ([s0, s1, s2].map V.int) ∧
  0 ≤ s1 ∧ s1 < w ^ h ∧ 0 ≤ s2 ∧ s2 < w ^ h ∧ xs.length ≤ 60 ∧ ∀ H' F', Frame F F' H H' → Q (.bl true) H'
def sp_l_mated (T : Txt K mg) (R : Rep K T.c_Ladder) : Sp := fun vs H Q _ => ∃ (p a : Addr) (w : Int) (h : Nat) (xs : List Int) (F : Addr → Prop), vs = [.ref p, .ref a] ∧ R.Lad H p w h xs F ∧ outF F H a = some (.lst (xs.map V.int)) ∧ xs.length ≤ 60 ∧ ∀ H' F', Frame F F' H H' → Q (.bl true) H'
def sp_l_goes_on (T : Txt K mg) (R : Rep K T.c_Ladder) : Sp := fun vs H Q _ => ∃ (p q a r s : Addr) (w : Int) (h : Nat) (xs ys : List Int) (F F2 : Addr → Prop) (s0 s1 s2 : Int), vs = [.ref p, .ref q, .ref a, .ref r, .ref s] ∧ R.Lad H p w h xs F ∧ R.Lad H q w h ys F2 ∧ (∀ b, F b → ¬ F2 b) ∧
  SqL K (outF (uni F F2) H) a (xs.map V.int) ∧ SqL K (outF (uni F F2) H) r (ys.map V.int) ∧ SqL K (outF (uni F F2) H) s ([s0, s1, s2].map V.int) ∧ 0 ≤ s1 ∧ s1 < w ^ h ∧ 0 ≤ s2 ∧ s2 < w ^ h ∧ xs.length ≤ 60 ∧ ys.length ≤ 60 ∧ ∀ H', Q (.bl true) H'
def sp_l_cut (T : Txt K mg) (R : Rep K T.c_Ladder) : Sp := fun vs H Q _ => ∃ (p a s : Addr) (w : Int) (h : Nat) (xs : List Int) (F : Addr → Prop) (at' s0 s1 s2 : Int), vs = [.ref p, .ref a, .int at', .ref s] ∧ R.Lad H p w h xs F ∧ outF F H a = some (.lst (xs.map V.int)) ∧ SqL K (outF F H) s ([s0, s1, s2].map V.int) ∧
  0 ≤ at' ∧ at' ≤ w ^ h ∧ 0 ≤ s1 ∧ s1 < w ^ h ∧ 0 ≤ s2 ∧ s2 < w ^ h ∧ xs.length ≤ 60 ∧ ∀ H', Q (.bl true) H'
theorem ok_l_cell_at (T : Txt K mg) (R : Rep K T.c_Ladder) (PR : Prog P w K mg base T R) : FnOk P w K mg base CX0 1 T.f_l_cell_at T.fd_l_cell_at ["_law_script", "_law_k"] (sp_l_cell_at T R) := by
  refine T.F_l_cell_at.ok sc_l_cell_at (fun vs H Q E h => ?_) (fun cdv A outer s H vs Q E hr h => ?_)
  · obtain ⟨a, ns, j, rfl, _⟩ := h
    rfl
  · obtain ⟨a, ns, j, rfl, hS, q⟩ := h
    refine ⟨_, (pss_cons (ps_if (pt_cmpR op_lt (pv 1) (pe_callB call_len_seq (by rfl) T.b_len PySem.boot_len (pa_cons (pv 0) pa_nil)) (nomark _)) (pss_one (ps_ret (pe_ix ix_list (pv 0) (pv 1) (fun _ _ => rfl)))) pss_nil)
      (pss_one (ps_ret pe_int))), ?_⟩
    refine ⟨_, rfl, _, rfl, a, ns.map V.int, rfl, .inl hS, _, _, rfl, rfl, _, rfl, ite2 (fun e => ?_) (fun e => ?_)⟩
    · have e2 := of_decide_eq_true e
      rw [List.length_map] at e2
      exact ⟨_, rfl, _, rfl, a, _, _, _, rfl, rfl, hS, atI_cell (by omega), q⟩
    · have e2 : ¬ j < ns.length := fun z => e (decide_eq_true (by rw [List.length_map]; omega))
      rw [cell_out e2] at q
      exact q
theorem ok_l_number (T : Txt K mg) (R : Rep K T.c_Ladder) (PR : Prog P w K mg base T R) : FnOk P w K mg base CX0 1 T.f_l_number T.fd_l_number ["_law_cell", "_law_limit"] (sp_l_number T R) := by
  refine T.F_l_number.ok sc_l_number (fun vs H Q E h => ?_) (fun cdv A outer s H vs Q E hr h => ?_)
  · obtain ⟨c, lim, rfl, _⟩ := h
    rfl
  · obtain ⟨c, lim, rfl, h1, q⟩ := h
    refine ⟨_, (pss_cons (ps_if (pt_cmpR op_eq (pe_op op_mod (pv 0) pe_int) pe_int (nomark _)) (pss_one (ps_ret (pe_op op_mod (pe_op op_fdivW (pv 0) pe_int) (pv 1)))) pss_nil)
      (pss_cons (ps_if (pt_cmpR op_eq (pe_op op_mod (pv 0) pe_int) pe_int (nomark _)) (pss_one (ps_ret (pe_op op_mod (pe_op op_fdivW (pv 0) pe_int) (pe_callB (call_min2 rfl) (by rfl) T.b_min (by decide +kernel) (pa_cons (pv 1) (pa_cons pe_int pa_nil)))))) pss_nil)
      (pss_cons (ps_if (pt_cmpR op_eq (pe_op op_mod (pv 0) pe_int) pe_int (nomark _)) (pss_one (ps_ret (pe_op op_sub (pe_op op_sub (pv 1) pe_int) (pe_op op_mod (pe_op op_fdivW (pv 0) pe_int) (pe_callB (call_min2 rfl) (by rfl) T.b_min (by decide +kernel) (pa_cons (pv 1) (pa_cons pe_int pa_nil))))))) pss_nil)
      (pss_one (ps_ret (pe_op op_mod (pe_op op_mul (pe_op op_fdivW (pv 0) pe_int) pe_int) (pv 1))))))), ?_⟩
    have lt4 : (0 : Int) < 4 := by decide
    have mi : 0 < (if (30 : Int) < lim then 30 else lim) := by split <;> omega
    refine ⟨_, rfl, _, _, rfl, rfl, lt4, rfl, _, rfl, ite2 (fun e => ?_) (fun e => ?_)⟩
    · have e2 := V.int.inj (of_decide_eq_true e)
      refine ⟨_, rfl, _, _, rfl, rfl, ⟨by decide, by decide⟩, _, rfl, _, _, rfl, rfl, h1, ?_⟩
      unfold lawNum at q
      rw [if_pos e2] at q
      exact q
    have e2 : ¬ c % 4 = 0 := fun z => e (decide_eq_true (congrArg V.int z))
    refine ⟨_, rfl, _, _, rfl, rfl, lt4, rfl, _, rfl, ite2 (fun f => ?_) (fun f => ?_)⟩
    · have f2 := V.int.inj (of_decide_eq_true f)
      refine ⟨_, rfl, _, _, rfl, rfl, ⟨by decide, by decide⟩, _, rfl, _, _, rfl, _, _, rfl, rfl, mi, ?_⟩
      unfold lawNum at q
      rw [if_neg e2, if_pos f2] at q
      exact q
    have f2 : ¬ c % 4 = 1 := fun z => f (decide_eq_true (congrArg V.int z))
    refine ⟨_, rfl, _, _, rfl, rfl, lt4, rfl, _, rfl, ite2 (fun g => ?_) (fun g => ?_)⟩
    · have g2 := V.int.inj (of_decide_eq_true g)
      refine ⟨_, rfl, _, _, rfl, rfl, _, rfl, _, _, rfl, rfl, ⟨by decide, by decide⟩, _, rfl, _, _, rfl, _, _, rfl, rfl, mi, _, _, rfl, rfl, ?_⟩
      unfold lawNum at q
      rw [if_neg e2, if_neg f2, if_pos g2] at q
      exact q
    have g2 : ¬ c % 4 = 2 := fun z => g (decide_eq_true (congrArg V.int z))
    refine ⟨_, rfl, _, _, rfl, rfl, ⟨by decide, by decide⟩, _, _, rfl, rfl, .inr ⟨by decide, by decide⟩, _, rfl, _, _, rfl, rfl, h1, ?_⟩
    unfold lawNum at q
    rw [if_neg e2, if_neg f2, if_neg g2] at q
    exact q
theorem ok_l_deed (T : Txt K mg) (R : Rep K T.c_Ladder) (PR : Prog P w K mg base T R) : FnOk P w K mg base CX0 21 T.f_l_deed T.fd_l_deed ["_law_ladder", "_law_row", "_law_cell", "_law_limit"] (sp_l_deed T R) := by
  have G_l_number : FnOk P w K mg base CX0 1 T.f_l_number T.fd_l_number ["_law_cell", "_law_limit"] (sp_l_number T R) := ok_l_number T R PR
  have G_ladder_take := PR.take
  have G_ladder_put := PR.put
  refine T.F_l_deed.ok sc_l_deed (fun vs H Q E h => ?_) (fun cdv A outer s H vs Q E hr h => ?_)
  · obtain ⟨p, d, wd, h, xs, F, G, rw, c, rfl, _⟩ := h
    rfl
  · obtain ⟨p, d, wd, h, xs, F, G, rw, c, rfl, v, hd, pm, hlen, q⟩ := h
    refine ⟨_, (pss_cons (ps_set (i := 4) sc_l_deed.nd rfl (.inl rfl) (pe_call G_l_number (hr.mono (by decide)) (by rfl) T.g_l_number T.F_l_number.kp T.bd_l_number .nil pass0 (pa_cons (pe_op op_fdivW (pv 2) pe_int) (pa_cons (pv 3) pa_nil))))
      (Evl.pss_cut (ps_if (PW.pt (pw_and (pt_cmpR op_eq (pe_op op_mod (pv 2) pe_int) pe_int (nomark _)) (pw_and1 (pt_cmpR op_gt (pe_callB call_lenD (by rfl) T.b_len PySem.boot_len (pa_cons (pv 1) pa_nil)) pe_int (nomark _))))) (pss_one (ps_set (i := 4) sc_l_deed.nd rfl (.inl rfl) (pe_ix ix_list (pe_callTy (call_list_dK rfl) (by rfl) T.b_list (by decide +kernel) (pa_cons (pv 1) pa_nil)) (pe_op op_mod (pe_op op_fdivW (pv 2) pe_int) (pe_callB call_lenD (by rfl) T.b_len PySem.boot_len (pa_cons (pv 1) pa_nil))) (fun _ _ => rfl)))) pss_nil)
      (pss_one (ps_if (pt_cmp (pc_din (hu_of hr) (pv 4) (pv 1))) (pss_cons (ps_expr (pe_dpop1 (pv 1) (pv 4) dict_m1))
      (pss_one (ps_expr (pe_meth (pv 0) T.cl_Ladder T.m_ladder_take G_ladder_take hr T.bd_ladder_take .nil passL (pa_cons (pv 4) pa_nil))))) (pss_cons (ps_dput (hu_of hr) (pv 1) (pv 4) pe_bl rfl)
      (pss_one (ps_expr (pe_meth (pv 0) T.cl_Ladder T.m_ladder_put G_ladder_put hr T.bd_ladder_put .nil passL (pa_cons (pv 4) pa_nil))))))))), ?_⟩
    have ok := R.ok v.lad
    have pl := pow_ge2 ok.w2 ok.h1
    have hdH := v.sub _ _ hd
    have hlx : rw.length = xs.length := pm.length_eq
    refine ⟨_, rfl, _, _, rfl, rfl, ⟨by decide, by decide⟩, _, rfl, _, _, rfl, by omega, ?_⟩
    have hn0 := lawNum_in (c := c / 3) (lim := wd ^ h) (by omega)
    dsimp only [gName]
    show Evl.tCut _ _ _ [nR p, nR d, nI c, nI (wd ^ h), nI (lawNum (c / 3) (wd ^ h))] _
    revert hn0
    generalize lawNum (c / 3) (wd ^ h) = n0
    intro hn0
    refine ⟨fun σ H2 => Same H H2 ∧ ∃ n, 0 ≤ n ∧ n < wd ^ h ∧ σ = [nR p, nR d, nI c, nI (wd ^ h), nI n], ?_, ?_⟩
    · refine ⟨_, rfl, _, _, rfl, rfl, (by show (0 : Int) < 3; decide), rfl, _, rfl, ite2 (fun _ => ?_) (fun _ => ⟨Same.refl _, n0, hn0.1, hn0.2, rfl⟩)⟩
      refine ⟨_, rfl, d, dkv rw, rfl, hdH, _, _, rfl, rfl, _, rfl, ite2 (fun z => ?_) (fun _ => ⟨Same.refl _, n0, hn0.1, hn0.2, rfl⟩)⟩
      have lp : (0 : Int) < (rw.length : Int) := by
        have z2 := of_decide_eq_true z
        rw [dkv_len] at z2
        exact z2
      have e2 : (dkv rw).map (fun kv => kV kv.1) = rw.map V.int := by
        unfold dkv
        rw [List.map_map]
        rfl
      have c1 := Int.emod_nonneg (c / 3) (show (rw.length : Int) ≠ 0 by omega)
      have c2 := Int.emod_lt_of_pos (c / 3) lp
      obtain ⟨j, ej, hj⟩ : ∃ j : Nat, c / 3 % (rw.length : Int) = (j : Int) ∧ j < rw.length := ⟨(c / 3 % (rw.length : Int)).toNat, by omega, by omega⟩
      have mj : rw.getD j 0 ∈ xs := pm.mem_iff.mp (mem_at hj)
      refine ⟨_, rfl, d, dkv rw, rfl, hdH, fun l nl => ?_⟩
      have hd3 := (same_upd (o := .lst ((dkv rw).map fun kv => kV kv.1)) nl) _ _ hdH
      refine ⟨_, rfl, _, _, rfl, rfl, ⟨by decide, by decide⟩, _, rfl, d, dkv rw, rfl, hd3, _, _, rfl, rfl, (by show (0 : Int) < ((dkv rw).length : Int); rw [dkv_len]; exact lp), l, _, _, V.int (rw.getD j 0), rfl, rfl, SqL.of upd_same, ?_, same_upd nl, rw.getD j 0, ok.lo _ mj, ok.hi _ mj, rfl⟩
      rw [e2, dkv_len, ej]
      exact atI_nat (map_at hj)
    rintro σ H2 ⟨s2, n, n0', n1, rfl⟩
    have v2 := v.grow s2
    obtain ⟨dx, fs, hp, _, _, _, _, hm⟩ := R.ins v2.lad
    have hd2 := v2.sub _ _ hd
    have hv := dkv_val n rw
    refine ⟨_, rfl, _, rfl, d, _, rfl, DGet.k (k := Sum.inl n) hd2, _, rfl, ite2 (fun z => ?_) (fun z => ?_)⟩
    · rw [hv] at z
      have m := of_decide_eq_true z
      have mx : n ∈ xs := pm.mem_iff.mp m
      obtain ⟨vv, hvv⟩ : ∃ vv, valV (dkv rw) (Sum.inl n) = some vv := Option.isSome_iff_exists.mp (by rw [hv]; exact z)
      refine ⟨_, rfl, d, rfl, .inl ⟨_, .inl hd2⟩, _, rfl, dkv rw, Sum.inl n, vv, hd2, rfl, hvv, ?_⟩
      rw [dkv_drop]
      have v3 := v2.mut (o := .dK (dkv (rw.filter fun y => !decide (y = n)))) hd
      obtain ⟨dx3, fs3, hp3, _, _, _, _, hm3⟩ := R.ins v3.lad
      exact ⟨_, rfl, p, dx3, fs3, rfl, hp3, hm3 _ (by decide +kernel), _, rfl, p, wd, h, xs, F, _, n, rfl, v3, by omega, fun z => absurd z (by omega), fun _ _ z => absurd mx z, fun _ H4 G4 F4 r us v4 s4 nr hr db => q H4 G4 F4 (remR n xs) (rw.filter fun y => !decide (y = n)) v4 (fun b o hb e => s4 _ _ (by rw [upd_ne hb]; exact e)) (s4 _ _ upd_same) (pm.filter _) (Nat.le_succ_of_le (remR_len n xs))⟩
    · rw [hv] at z
      have m : n ∉ rw := fun m => z (decide_eq_true m)
      have mx : n ∉ xs := fun z => m (pm.mem_iff.mpr z)
      have sz : (dkv rw).length < sizeLine := by
        rw [dkv_len]
        exact small1000 (by omega)
      refine ⟨_, rfl, _, rfl, d, _, rfl, DPut.k (k := Sum.inl n) hd2 sz, ?_⟩
      rw [dkv_put m]
      have v3 := v2.mut (o := .dK (dkv (rw ++ [n]))) hd
      obtain ⟨dx3, fs3, hp3, _, _, _, _, hm3⟩ := R.ins v3.lad
      exact ⟨_, rfl, p, dx3, fs3, rfl, hp3, hm3 _ (by decide +kernel), _, rfl, p, wd, h, xs, F, _, n, rfl, v3, by omega, fun z => absurd z (by omega), fun z => absurd z mx, fun _ _ _ H4 G4 F4 r us v4 s4 nr hr db => q H4 G4 F4 (insR n xs) (rw ++ [n]) v4 (fun b o hb e => s4 _ _ (by rw [upd_ne hb]; exact e)) (s4 _ _ upd_same) ((List.perm_append_singleton n rw).trans ((List.Perm.cons n pm).trans (insR_perm mx).symm)) (by rw [insR_len mx]; omega)⟩
theorem ok_l_told (T : Txt K mg) (R : Rep K T.c_Ladder) (PR : Prog P w K mg base T R) : FnOk P w K mg base CX0 21 T.f_l_told T.fd_l_told ["_law_ladder", "_law_spot"] (sp_l_told T R) := by
  have G_ladder_level := PR.level
  have G_ladder_counted := PR.counted
  have G_ladder_has := PR.has
  have G_ladder_below := PR.below
  have G_ladder_above := PR.above
  have G_ladder_place := PR.place
  have G_ladder_trail := PR.trail
  have G_ladder_row := PR.row
  have G_ladder_stretch := PR.stretch
  have G_ladder_at := PR.at_
  have G_ladder_ahead := PR.ahead
  have G_ladder_way := PR.way
  refine T.F_l_told.ok sc_l_told (fun vs H Q E h => ?_) (fun cdv A outer s H vs Q E hr h => ?_)
  · obtain ⟨p, s, wd, h, xs, F, B, s0, s1, s2, rfl, _⟩ := h
    rfl
  · obtain ⟨p, s, wd, h, xs, F, B, s0, s1, s2, rfl, hL, sub, bg, hS, a0, a1, b0, b1, hlen, q⟩ := h
    refine ⟨_, (pss_cons (ps_set (i := 2) sc_l_told.nd rfl (.inl rfl) (pe_lst (pa_cons (pe_fld (pv 0) rfl) (pa_cons (pe_fld (pv 0) rfl) (pa_cons (pe_fld (pv 0) rfl) (pa_cons (pe_fld (pv 0) rfl) pa_nil))))))
      (pss_cons (ps_for PassesOwn.never rfl (pi_range1 (by rfl) T.b_range (pa_cons (pe_op op_add (pe_fld (pv 0) rfl) pe_int) pa_nil)) (pg_name (i := 3) sc_l_told.nd rfl (.inr rfl)) (pss_cons (ps_set (i := 4) sc_l_told.nd rfl (.inl rfl) (pe_callTy call_list_of (by rfl) T.b_list (by decide +kernel) (pa_cons (pe_meth (pv 0) T.cl_Ladder T.m_ladder_level G_ladder_level hr T.bd_ladder_level .nil passL (pa_cons (pv 3) pa_nil)) pa_nil)))
      (pss_cons (ps_expr (pe_bm PySem.F.plainAttrs_list PySem.F.slot_list_append PySem.F.type_list_append mt_append (pv 2) (pa_cons (pv 4) pa_nil)))
      (pss_one (ps_if (pt_cmpR op_eq (pv 3) (pe_op op_mod (pe_ix ix_list (pv 1) pe_int (fun _ _ => rfl)) (pe_op op_add (pe_fld (pv 0) rfl) pe_int)) (nomark _)) (pss_one (ps_expr (pe_bm PySem.F.plainAttrs_list PySem.F.slot_list_append PySem.F.type_list_append mt_append (pv 2) (pa_cons (pe_lc (own := [("_law_number_here", 5)]) (g := gName 5) (by rfl) sc_l_told.nd (pi_list (pv 4)) (blkOk_by (own := [("_law_number_here", 5)]) (N := ["_law_ladder", "_law_spot", "_law_found", "_law_level", "_law_row", "_law_number_here"]) (sc := defScope s_l_told) (by decide +kernel)) (fun _ _ _ _ _ => (pg_name (i := 5) sc_l_told.nd rfl (Or.inl rfl))) (fun _ _ _ _ _ => pts_nil) (fun _ _ _ _ _ => (pe_meth (pv 0) T.cl_Ladder T.m_ladder_ahead G_ladder_ahead hr T.bd_ladder_ahead .nil passL (pa_cons (pv 3) (pa_cons (pv 5) pa_nil))))) pa_nil)))) pss_nil)))))
      (pss_cons (ps_for PassesOwn.never rfl (pi_list (pe_slice sl_list (pv 1) (po_some pe_int) po_none)) (pg_name (i := 5) sc_l_told.nd rfl (.inl rfl)) (pss_cons (ps_expr (pe_bm PySem.F.plainAttrs_list PySem.F.slot_list_append PySem.F.type_list_append mt_append (pv 2) (pa_cons (pe_lst (pa_cons (pe_meth (pv 0) T.cl_Ladder T.m_ladder_has G_ladder_has hr T.bd_ladder_has .nil passL (pa_cons (pv 5) pa_nil)) (pa_cons (pe_meth (pv 0) T.cl_Ladder T.m_ladder_below G_ladder_below hr T.bd_ladder_below .nil passL (pa_cons (pv 5) pa_nil)) (pa_cons (pe_meth (pv 0) T.cl_Ladder T.m_ladder_above G_ladder_above hr T.bd_ladder_above .nil passL (pa_cons (pv 5) pa_nil)) (pa_cons (pe_meth (pv 0) T.cl_Ladder T.m_ladder_place G_ladder_place hr T.bd_ladder_place .nil passL (pa_cons (pv 5) pa_nil)) pa_nil))))) pa_nil)))
      (pss_one (ps_expr (pe_bm PySem.F.plainAttrs_list PySem.F.slot_list_append PySem.F.type_list_append mt_append (pv 2) (pa_cons (pe_callTy call_list_of (by rfl) T.b_list (by decide +kernel) (pa_cons (pe_meth (pv 0) T.cl_Ladder T.m_ladder_trail G_ladder_trail hr T.bd_ladder_trail .nil passL (pa_cons (pv 5) pa_nil)) pa_nil)) pa_nil))))))
      (pss_cons (ps_expr (pe_bm PySem.F.plainAttrs_list PySem.F.slot_list_append PySem.F.type_list_append mt_append (pv 2) (pa_cons (pe_lst (pa_cons (pe_callTy call_list_of (by rfl) T.b_list (by decide +kernel) (pa_cons (pe_meth0 (pv 0) T.cl_Ladder T.m_ladder_row G_ladder_row hr T.bd_ladder_row .nil pass0) pa_nil)) (pa_cons (pe_callTy call_list_of (by rfl) T.b_list (by decide +kernel) (pa_cons (pe_meth (pv 0) T.cl_Ladder T.m_ladder_stretch G_ladder_stretch hr T.bd_ladder_stretch .nil passL (pa_cons (pe_ix ix_list (pv 1) pe_int (fun _ _ => rfl)) (pa_cons (pe_ix ix_list (pv 1) pe_int (fun _ _ => rfl)) pa_nil))) pa_nil)) (pa_cons (pe_meth (pv 0) T.cl_Ladder T.m_ladder_counted G_ladder_counted hr T.bd_ladder_counted .nil passL (pa_cons (pe_ix ix_list (pv 1) pe_int (fun _ _ => rfl)) (pa_cons (pe_ix ix_list (pv 1) pe_int (fun _ _ => rfl)) pa_nil))) pa_nil)))) pa_nil)))
      (Evl.pss_cut (ps_if (pt_cmpR op_gt (pe_fld (pv 0) rfl) pe_int (nomark _)) (pss_cons (ps_expr (pe_bm PySem.F.plainAttrs_list PySem.F.slot_list_append PySem.F.type_list_append mt_append (pv 2) (pa_cons (pe_lst (pa_cons (pe_meth (pv 0) T.cl_Ladder T.m_ladder_at G_ladder_at hr T.bd_ladder_at .nil passL (pa_cons (pe_op op_mod (pe_ix ix_list (pv 1) pe_int (fun _ _ => rfl)) (pe_fld (pv 0) rfl)) pa_nil)) (pa_cons (pe_callTy call_list_of (by rfl) T.b_list (by decide +kernel) (pa_cons (pe_meth (pv 0) T.cl_Ladder T.m_ladder_way G_ladder_way hr T.bd_ladder_way .nil passL (pa_cons (pe_op op_mod (pe_ix ix_list (pv 1) pe_int (fun _ _ => rfl)) (pe_fld (pv 0) rfl)) pa_nil)) pa_nil)) pa_nil))) pa_nil)))
      (pss_one (ps_expr (pe_bm PySem.F.plainAttrs_list PySem.F.slot_list_append PySem.F.type_list_append mt_append (pv 2) (pa_cons (pe_lst (pa_cons (pe_meth (pv 0) T.cl_Ladder T.m_ladder_at G_ladder_at hr T.bd_ladder_at .nil passL (pa_cons pe_int pa_nil)) (pa_cons (pe_meth (pv 0) T.cl_Ladder T.m_ladder_at G_ladder_at hr T.bd_ladder_at .nil passL (pa_cons (pe_op op_sub (pe_fld (pv 0) rfl) pe_int) pa_nil)) pa_nil))) pa_nil))))) pss_nil)
      (pss_one (ps_ret (pv 2)))))))), ?_⟩
    obtain ⟨dx, fs, hp, hwidth, hhigh, hlimit, hmany, hm⟩ := R.ins hL
    have ok := R.ok hL
    have h12 := ok.h12
    have pl := pow_ge2 ok.w2 ok.h1
    refine ⟨_, rfl, p, _, dx, fs, _, rfl, hp, T.cl_Ladder, T.n_Ladder_width, hwidth, _, rfl, p, _, dx, fs, _, rfl, hp, T.cl_Ladder, T.n_Ladder_high, hhigh, _, rfl, p, _, dx, fs, _, rfl, hp, T.cl_Ladder, T.n_Ladder_limit, hlimit, _, rfl, p, _, dx, fs, _, rfl, hp, T.cl_Ladder, T.n_Ladder_many, hmany, (by show 4 ≤ sizeLine; decide), fun b nb => ?_⟩
    dsimp only [gName]
    have Bb : ¬ B b := bg.fresh nb
    have m0 : Mk14 (uni B (one b)) b (upd H b (.lst [.int wd, .int (h : Int), .int (wd ^ h), .int (xs.length : Int)])) [.int wd, .int (h : Int), .int (wd ^ h), .int (xs.length : Int)] [.int wd, .int (h : Int), .int (wd ^ h), .int (xs.length : Int)] :=
      ⟨(bg.same (same_upd nb)).uni (Bag.one upd_same), .inr rfl, upd_same, .cons (.int _) (.cons (.int _) (.cons (.int _) (.cons (.int _) .nil)))⟩
    have S0 : Same H (upd H b (.lst [.int wd, .int (h : Int), .int (wd ^ h), .int (xs.length : Int)])) := same_upd nb
    have l0 : [V.int wd, V.int (h : Int), V.int (wd ^ h), V.int (xs.length : Int)].length = 4 := rfl
    show tSeq _ _ _ [nR p, nR s, nR b, none, none, none] _
    revert m0 S0
    generalize upd H b (.lst [.int wd, .int (h : Int), .int (wd ^ h), .int (xs.length : Int)]) = H1
    generalize [V.int wd, V.int (h : Int), V.int (wd ^ h), V.int (xs.length : Int)] = us0 at l0
    generalize hd0 : [PyData.int wd, PyData.int (h : Int), PyData.int (wd ^ h), PyData.int (xs.length : Int)] = ds0
    intro m0 S0
    -- the levels
    refine ⟨_, rfl, p, _, dx, fs, _, rfl, S0 _ _ hp, T.cl_Ladder, T.n_Ladder_high, hhigh, _, _, rfl, rfl, _, rfl, by omega, by omega, for_range (lo := 0) (n := h + 1) (fun i σ H' => Same H H' ∧ ∃ us, Mk14 (uni B (one b)) b H' us (ds0 ++ (List.range i).flatMap (toldLev wd h xs s0)) ∧ us.length ≤ 4 + 2 * i ∧ ∃ y3 y4 y5, σ = [nR p, nR s, nR b, y3, y4, y5])
      ⟨S0, us0, by rw [show (List.range 0).flatMap (toldLev wd h xs s0) = [] from rfl, List.append_nil]; exact m0, by omega, none, none, none, rfl⟩ ?_ ?_⟩
    · rintro i σ H' hi ⟨sH, us, m, ul, y3, y4, y5, rfl⟩
      rw [Int.zero_add]
      have hiH : i ≤ h := by omega
      dsimp only [gName]
      refine ⟨_, rfl, p, dx, fs, rfl, sH _ _ hp, hm _ (by decide +kernel), _, rfl, p, wd, h, xs, F, (i : Int), rfl, R.same hL sH, hlen, fun z => absurd z (by omega), fun l el hl H2 r2 t2 n2 e2 => ⟨r2, _, rfl, .inl (SqL.of e2), fun r3 n3 => ?_⟩⟩
      have ell : l = i := by omega
      subst ell
      dsimp only [gName]
      have m2 := m.grow t2
      have t3 := same_upd (o := .lst ((levL wd l xs).map V.int)) n3
      have f3 : Dh (outF (uni B (one b)) (upd H2 r3 (.lst ((levL wd l xs).map V.int)))) (.ref r3) (dI (levL wd l xs)) := .lst (by rw [outF_out (m2.bag.fresh n3)]; exact upd_same) (dhAll_ints _ _)
      have e3 : (upd H2 r3 (.lst ((levL wd l xs).map V.int))) r3 = some (.lst ((levL wd l xs).map V.int)) := upd_same
      have m3 := (m2.grow t3)
      have S3 := (sH.trans t2).trans t3
      revert t3 f3 e3 m3 S3
      generalize upd H2 r3 (.lst ((levL wd l xs).map V.int)) = H3
      intro t3 f3 e3 m3 S3
      refine ⟨_, rfl, .inl ⟨rfl, _, SqL.of m3.eD⟩, _, rfl, b, us, _, rfl, rfl, m3.eD, small1000 (by omega), ?_⟩
      have m4 := m3.app (Same.refl _) f3
      have r3b : r3 ≠ b := fun z => (m2.bag.fresh n3) (.inr z)
      have e4 : (upd H3 b (.lst (us ++ [.ref r3]))) r3 = some (.lst ((levL wd l xs).map V.int)) := by rw [upd_ne r3b]; exact e3
      have S4 : Same H (upd H3 b (.lst (us ++ [.ref r3]))) := same_mut S3 nb
      revert m4 e4 S4
      generalize upd H3 b (.lst (us ++ [.ref r3])) = H4
      intro m4 e4 S4
      have ul4 : (us ++ [V.ref r3]).length = us.length + 1 := by rw [List.length_append]; rfl
      have eR : ds0 ++ (List.range (l + 1)).flatMap (toldLev wd h xs s0) = (ds0 ++ (List.range l).flatMap (toldLev wd h xs s0)) ++ toldLev wd h xs s0 l := by rw [List.range_succ, flat_next, List.append_assoc]
      refine ⟨_, rfl, _, rfl, s, _, 0, _, rfl, rfl, S4.seq hS, atI_nat (j := 0) rfl, _, rfl, p, _, dx, fs, _, rfl, S4 _ _ hp, T.cl_Ladder, T.n_Ladder_high, hhigh, _, _, rfl, rfl, _, _, rfl, rfl, (by show (0 : Int) < (h : Int) + 1; omega), rfl, _, rfl, ite2 (fun c => ?_) (fun c => ?_)⟩
      · have c2 : V.int (l : Int) = V.int (s0 % ((h : Int) + 1)) := of_decide_eq_true c
        have eL : toldLev wd h xs s0 l = [dI (levL wd l xs)] ++ [.list ((levL wd l xs).map (aheadD wd l xs))] := by
          unfold toldLev
          rw [if_pos c2]
          rfl
        refine ⟨_, rfl, .inl ⟨rfl, _, SqL.of m4.eD⟩, _, rfl, r3, rfl, ⟨_, SqL.of e4⟩, fun E nE => ?_⟩
        have Eb : E ≠ b := (ne_of_none m4.eD nE).symm
        have hE := same_upd (o := .lst []) nE
        have mE : Mk14 (uni (uni B (one b)) (one E)) E (upd H4 E (.lst [])) [] [] := ⟨(m4.bag.same hE).uni (Bag.one upd_same), .inr rfl, upd_same, .nil⟩
        refine lc_list (K := K) (a := r3) (xs := (levL wd l xs).map V.int) (fun j H' => Same H4 H' ∧ ∃ ws, Mk14 (uni (uni B (one b)) (one E)) E H' ws (((levL wd l xs).take j).map (aheadD wd l xs)) ∧ ws.length = j) ⟨hE, [], mE, rfl⟩ (fun j H' _ hh => SqL.of (hh.1 _ _ e4)) (fun j x H' hj hh => ?_) (fun H6 hh => ?_)
        · obtain ⟨sE, ws, mw, wl⟩ := hh
          obtain ⟨jl, rfl, mx⟩ := int_at hj
          have S5 := S4.trans sE
          have ll : (levL wd l xs).length ≤ 150 := Nat.le_trans (thinF_len _ _ _) hlen
          refine ⟨rfl, ?_⟩
          dsimp only [tYes]
          rw [if_pos rfl]
          refine ⟨_, rfl, p, dx, fs, rfl, S5 _ _ hp, hm _ (by decide +kernel), _, rfl, _, rfl, p, wd, h, xs, F, (l : Int), _, rfl, R.same hL S5, hlen, fun z => absurd z (by omega), fun l3 e3 hl3 nm => ?_, fun l3 e3 hl3 hn H7 t5 s5 n5 h5 => ⟨ws, s5 _ _ mw.eD, small1000 (by omega), same_mut (sE.trans s5) nE, ws ++ [.ref t5], ?_, by rw [List.length_append, wl]; rfl⟩⟩
          · obtain rfl : l3 = l := by omega
            exact absurd mx nm
          · obtain rfl : l3 = l := by omega
            have et : ((levL wd l3 xs).take (j + 1)).map (aheadD wd l3 xs) = ((levL wd l3 xs).take j).map (aheadD wd l3 xs) ++ [aheadD wd l3 xs ((levL wd l3 xs).getD j 0)] := by
              rw [List.take_succ, List.getElem?_eq_getElem jl, List.map_append, getD_eq jl]
              rfl
            rw [et]
            exact mw.app s5 (.tup (by rw [outF_out (mw.bag.fresh n5)]; exact h5) (.cons (dh_o _ _) (.cons (.int _) .nil)))
        obtain ⟨sE, ws, mw, wl⟩ := hh
        rw [List.length_map, List.take_length] at mw
        have mb := m4.grow sE
        refine ⟨b, us ++ [.ref r3], _, rfl, rfl, mb.eD, small1000 (by omega), same_mut (S4.trans sE) nb, (us ++ [.ref r3]) ++ [.ref E], ?_, by rw [List.length_append, ul4]; show us.length + 1 + 1 ≤ _; omega, _, _, _, rfl⟩
        rw [eR, eL, ← List.append_assoc]
        refine mb.app (Same.refl _) (.lst (by rw [outF_out (m4.bag.fresh nE)]; exact mw.eD) (mw.all.same (Frame.less fun b h => .inl h).own))
      · have c2 : ¬ V.int (l : Int) = V.int (s0 % ((h : Int) + 1)) := fun z => c (decide_eq_true z)
        have eL : toldLev wd h xs s0 l = [dI (levL wd l xs)] := by
          unfold toldLev
          rw [if_neg c2]
        refine ⟨S4, us ++ [.ref r3], ?_, by omega, _, _, _, rfl⟩
        rw [eR, eL]
        exact m4
    rintro σ H5 ⟨S5, us1, m1, ul1, y3, y4, y5, rfl⟩
    -- two numbers
    have hS5 := S5.seq hS
    refine ⟨_, rfl, 1, rfl, s, _, rfl, hS5, fun c nc => ⟨c, rfl, ⟨_, SqL.of upd_same⟩, ?_⟩⟩
    have mc := m1.grow (same_upd (o := .lst ([s1, s2].map V.int)) nc)
    have Sc := S5.trans (same_upd (o := .lst ([s1, s2].map V.int)) nc)
    have ec : (upd H5 c (.lst ([s1, s2].map V.int))) c = some (.lst ([s1, s2].map V.int)) := upd_same
    have cB : ¬ uni B (one b) c := m1.bag.fresh nc
    show ∃ W : Nat → Nat → L2.St → Hp → Prop, (∃ m, W 0 m _ (upd H5 c (.lst ([s1, s2].map V.int)))) ∧ _
    revert mc Sc ec
    generalize upd H5 c (.lst ([s1, s2].map V.int)) = H6
    intro mc Sc ec
    generalize hd2 : ds0 ++ (List.range (h + 1)).flatMap (toldLev wd h xs s0) = ds1 at mc
    refine for_list (K := K) (a := c) (xs := [s1, s2].map V.int) (fun i σ H' => Same H H' ∧ H' c = some (.lst ([s1, s2].map V.int)) ∧ ∃ us, Mk14 (uni B (one b)) b H' us (ds1 ++ ([s1, s2].take i).flatMap (toldNum wd h xs)) ∧ us.length ≤ 4 + 2 * (h + 1) + 2 * i ∧ ∃ y3 y4 y5, σ = [nR p, nR s, nR b, y3, y4, y5])
      ⟨Sc, ec, us1, by rw [show ([s1, s2].take 0).flatMap (toldNum wd h xs) = [] from rfl, List.append_nil]; exact mc, by omega, _, _, _, rfl⟩ (fun i σ H' _ hh => SqL.of hh.2.1) ?_ ?_
    · rintro i x σ H' hi ⟨sH, hc, us, m, ul, z3, z4, z5, rfl⟩
      obtain ⟨il, rfl, mx⟩ := int_at hi
      have eN : ([s1, s2].take (i + 1)).flatMap (toldNum wd h xs) = ([s1, s2].take i).flatMap (toldNum wd h xs) ++ toldNum wd h xs ([s1, s2].getD i 0) := by
        rw [List.take_succ, List.getElem?_eq_getElem il, getD_eq il]
        exact flat_next _ _ _
      rw [eN]
      have i2 : i < 2 := il
      have nr : 0 ≤ [s1, s2].getD i 0 ∧ [s1, s2].getD i 0 < wd ^ h := by
        rcases List.mem_cons.mp mx with e | e
        · rw [e]
          exact ⟨a0, a1⟩
        · rw [List.mem_singleton.mp e]
          exact ⟨b0, b1⟩
      generalize [s1, s2].getD i 0 = n at nr
      obtain ⟨n0, n1⟩ := nr
      dsimp only [gName]
      refine ⟨_, rfl, .inl ⟨rfl, _, SqL.of m.eD⟩, _, rfl, p, dx, fs, rfl, sH _ _ hp, hm _ (by decide +kernel), _, rfl, p, wd, h, xs, F, n, rfl, R.same hL sH, hlen, fun z => absurd z (by omega), fun _ _ J1 t1 => ?_⟩
      have u1 := sH.trans t1
      refine ⟨_, rfl, p, dx, fs, rfl, u1 _ _ hp, hm _ (by decide +kernel), _, rfl, p, wd, h, xs, F, n, rfl, R.same hL u1, hlen, fun z => absurd z (by omega), fun _ _ J2 t2 => ?_⟩
      have u2 := u1.trans t2
      refine ⟨_, rfl, p, dx, fs, rfl, u2 _ _ hp, hm _ (by decide +kernel), _, rfl, p, wd, h, xs, F, n, rfl, R.same hL u2, hlen, fun z => absurd z (by omega), fun _ _ J3 t3 => ?_⟩
      have u3 := u2.trans t3
      refine ⟨_, rfl, p, dx, fs, rfl, u3 _ _ hp, hm _ (by decide +kernel), _, rfl, p, wd, h, xs, F, n, rfl, R.same hL u3, hlen, fun z => absurd z (by omega), fun _ _ J4 t4 => ⟨(by show 4 ≤ sizeLine; decide), fun E nE => ?_⟩⟩
      have m4 := (((m.grow t1).grow t2).grow t3).grow t4
      have tE := same_upd (o := .lst [.bl (decide (n ∈ xs)), oV (belowEq xs n), oV (aboveEq xs n), .int (placeN xs n : Int)]) nE
      have m5 := m4.grow tE
      have Eb := m4.bag.fresh nE
      have f5 : Dh (outF (uni B (one b)) (upd J4 E (.lst [.bl (decide (n ∈ xs)), oV (belowEq xs n), oV (aboveEq xs n), .int (placeN xs n : Int)]))) (.ref E) (.list [.bool (decide (n ∈ xs)), dO (belowEq xs n), dO (aboveEq xs n), .int (placeN xs n : Int)]) :=
        .lst (by rw [outF_out Eb]; exact upd_same) (.cons (.bl _) (.cons (dh_o _ _) (.cons (dh_o _ _) (.cons (.int _) .nil))))
      refine ⟨b, us, _, rfl, rfl, m5.eD, small1000 (by omega), ?_⟩
      have m6 := m5.app (Same.refl _) f5
      have cb : c ≠ b := fun z => cB (.inr z)
      have hc6 : (upd (upd J4 E (.lst [.bl (decide (n ∈ xs)), oV (belowEq xs n), oV (aboveEq xs n), .int (placeN xs n : Int)])) b (.lst (us ++ [.ref E]))) c = some (.lst ([s1, s2].map V.int)) := by
        rw [upd_ne cb]
        exact tE _ _ (t4 _ _ (t3 _ _ (t2 _ _ (t1 _ _ hc))))
      have u6 : Same H (upd (upd J4 E (.lst [.bl (decide (n ∈ xs)), oV (belowEq xs n), oV (aboveEq xs n), .int (placeN xs n : Int)])) b (.lst (us ++ [.ref E]))) := same_mut ((u3.trans t4).trans tE) nb
      revert m6 hc6 u6
      generalize (upd (upd J4 E (.lst [.bl (decide (n ∈ xs)), oV (belowEq xs n), oV (aboveEq xs n), .int (placeN xs n : Int)])) b (.lst (us ++ [.ref E]))) = J6
      intro m6 hc6 u6
      clear m4 m5 f5 tE
      refine ⟨_, rfl, .inl ⟨rfl, _, SqL.of m6.eD⟩, _, rfl, p, dx, fs, rfl, u6 _ _ hp, hm _ (by decide +kernel), _, rfl, p, wd, h, xs, F, _, n, rfl, view_out (R.same hL u6), hlen, fun z => absurd z (by omega), fun _ _ J7 G7 r7 ws v7 _ t7 _ _ e7 d7 => ⟨r7, _, rfl, .inl (SqL.of (v7.sub _ _ e7)), fun E2 nE2 => ?_⟩⟩
      have m7 := m6.grow t7
      have tE2 := same_upd (o := .lst ws) nE2
      have E2b := m7.bag.fresh nE2
      have f8 : Dh (outF (uni B (one b)) (upd J7 E2 (.lst ws))) (.ref E2) (.list ((trailR wd h xs n).map stD)) :=
        .lst (by rw [outF_out E2b]; exact upd_same) (dh_bag (F := F) m6.bag (t7.trans tE2) (v7.sub.trans tE2) stD_flat d7)
      have m8 := m7.grow tE2
      refine ⟨b, us ++ [.ref E], _, rfl, rfl, m8.eD, small1000 (by rw [List.length_append]; show us.length + 1 ≤ 1000; omega), same_mut ((u6.trans t7).trans tE2) nb, ?_, (us ++ [.ref E]) ++ [.ref E2], ?_, by rw [List.length_append, List.length_append]; show us.length + 1 + 1 ≤ _; omega, _, _, _, rfl⟩
      · rw [upd_ne cb]
        exact tE2 _ _ (t7 _ _ hc6)
      · have m9 := m8.app (Same.refl _) f8
        rw [← List.append_assoc ds1, show toldNum wd h xs n = [.list [.bool (decide (n ∈ xs)), dO (belowEq xs n), dO (aboveEq xs n), .int (placeN xs n : Int)]] ++ [.list ((trailR wd h xs n).map stD)] from rfl, ← List.append_assoc (ds1 ++ _)]
        exact m9
    rintro σ H7 ⟨S7, hc7, us2, m2, ul2, z3, z4, z5, rfl⟩
    rw [show ([s1, s2].take ([s1, s2].map V.int).length) = [s1, s2] from rfl] at m2
    have ul2' : us2.length ≤ 4 + 2 * (h + 1) + 2 * 2 := ul2
    generalize hd1 : ds1 ++ [s1, s2].flatMap (toldNum wd h xs) = ds2 at m2
    clear mc Sc ec hc7
    have hS7 := S7.seq hS
    -- the row, a stretch, a count
    refine ⟨_, rfl, .inl ⟨rfl, _, SqL.of m2.eD⟩, _, rfl, p, dx, fs, rfl, S7 _ _ hp, hm _ (by decide +kernel), p, wd, h, xs, F, rfl, R.same hL S7, hlen, fun J1 r1 t1 n1 e1 => ⟨r1, _, rfl, .inl (SqL.of e1), fun q1 nq1 => ?_⟩⟩
    have tq1 := same_upd (o := .lst (xs.map V.int)) nq1
    have u1 := (S7.trans t1).trans tq1
    refine ⟨_, rfl, p, dx, fs, rfl, u1 _ _ hp, hm _ (by decide +kernel), _, rfl, s, _, 1, _, rfl, rfl, u1.seq hS, atI_nat (j := 1) rfl, _, rfl, s, _, 2, _, rfl, rfl, u1.seq hS, atI_nat (j := 2) rfl, p, wd, h, xs, F, s1, s2, rfl, R.same hL u1, hlen, fun z => absurd z (by omega), fun _ _ _ _ J2 r2 t2 n2 e2 => ⟨r2, _, rfl, .inl (SqL.of e2), fun q2 nq2 => ?_⟩⟩
    have tq2 := same_upd (o := .lst ((stretchL xs s1 s2).map V.int)) nq2
    have u2 := (u1.trans t2).trans tq2
    refine ⟨_, rfl, p, dx, fs, rfl, u2 _ _ hp, hm _ (by decide +kernel), _, rfl, s, _, 2, _, rfl, rfl, u2.seq hS, atI_nat (j := 2) rfl, _, rfl, s, _, 1, _, rfl, rfl, u2.seq hS, atI_nat (j := 1) rfl, p, wd, h, xs, F, s2, s1, rfl, R.same hL u2, hlen, fun z => absurd z (by omega), fun _ _ _ _ J3 t3 => ⟨(by show 3 ≤ sizeLine; decide), fun E nE => ?_⟩⟩
    have m3 := ((((m2.grow t1).grow tq1).grow t2).grow tq2).grow t3
    have tE := same_upd (o := .lst [.ref q1, .ref q2, .int ((stretchL xs s2 s1).length : Int)]) nE
    have nb1 := (m2.grow t1).bag.fresh nq1
    have nb2 := (((m2.grow t1).grow tq1).grow t2).bag.fresh nq2
    have f4 : Dh (outF (uni B (one b)) (upd J3 E (.lst [.ref q1, .ref q2, .int ((stretchL xs s2 s1).length : Int)]))) (.ref E) (.list [dI xs, dI (stretchL' xs s1 s2), .int ((stretchL' xs s2 s1).length : Int)]) := by
      refine .lst (by rw [outF_out (m3.bag.fresh nE)]; exact upd_same) (.cons (.lst ?_ (dhAll_ints _ _)) (.cons (.lst ?_ (dhAll_ints _ _)) (.cons (.int _) .nil)))
      · rw [outF_out nb1]
        exact tE _ _ (t3 _ _ (tq2 _ _ (t2 _ _ upd_same)))
      · rw [outF_out nb2]
        exact tE _ _ (t3 _ _ upd_same)
    have m4 := m3.grow tE
    refine ⟨b, us2, _, rfl, rfl, m4.eD, small1000 (by omega), ?_⟩
    have m5 := m4.app (Same.refl _) f4
    have S5' : Same H (upd (upd J3 E (.lst [.ref q1, .ref q2, .int ((stretchL xs s2 s1).length : Int)])) b (.lst (us2 ++ [.ref E]))) := same_mut ((u2.trans t3).trans tE) nb
    have ul5 : (us2 ++ [V.ref E]).length = us2.length + 1 := by rw [List.length_append]; rfl
    revert m5 S5' ul5
    generalize (upd (upd J3 E (.lst [.ref q1, .ref q2, .int ((stretchL xs s2 s1).length : Int)])) b (.lst (us2 ++ [.ref E]))) = H8
    generalize us2 ++ [V.ref E] = us3
    intro m5 S5' ul5
    clear m3 m4 f4 tE m2
    have fin : ∀ {H' : Hp} {us : List V}, Same H H' → Mk14 (uni B (one b)) b H' us (toldD wd h xs s0 s1 s2) → Q (.ref b) H' := fun {H' us} sH m => q H' b sH (.lst (by rw [outF_out Bb]; exact m.eD) (m.all.same (Frame.less fun c h => .inl h).own))
    -- where something is kept
    refine ⟨fun σ H' => Same H H' ∧ ∃ us, Mk14 (uni B (one b)) b H' us (toldD wd h xs s0 s1 s2) ∧ ∃ z3 z4 z5, σ = [nR p, nR s, nR b, z3, z4, z5], ?_, ?_⟩
    · refine ⟨_, rfl, p, _, dx, fs, _, rfl, S5' _ _ hp, T.cl_Ladder, T.n_Ladder_many, hmany, _, _, rfl, rfl, _, rfl, ite2 (fun c => ?_) (fun c => ?_)⟩
      · have lp : 0 < xs.length := by
          have := of_decide_eq_true c
          omega
        have c1 := Int.emod_nonneg s0 (show (xs.length : Int) ≠ 0 by omega)
        have c2 := Int.emod_lt_of_pos s0 (show (0 : Int) < (xs.length : Int) by omega)
        have eT : toldD wd h xs s0 s1 s2 = ((ds2 ++ [.list [dI xs, dI (stretchL' xs s1 s2), .int ((stretchL' xs s2 s1).length : Int)]]) ++ [.list [.int (xs.getD (s0 % (xs.length : Int)).toNat 0), .list ((trailR wd h xs (xs.getD (s0 % (xs.length : Int)).toNat 0)).map stD)]]) ++ [.list [.int (xs.getD 0 0), .int (xs.getD (xs.length - 1) 0)]] := by
          unfold toldD
          rw [if_pos lp, hd0, hd2, hd1, List.append_assoc (ds2 ++ _)]
          rfl
        obtain ⟨j, ej, hj⟩ : ∃ j : Nat, s0 % (xs.length : Int) = (j : Int) ∧ j < xs.length := ⟨(s0 % (xs.length : Int)).toNat, by omega, by omega⟩
        rw [ej, Int.toNat_natCast] at eT
        have mz : (0 : Int) < (xs.length : Int) := by omega
        refine ⟨_, rfl, .inl ⟨rfl, _, SqL.of m5.eD⟩, _, rfl, p, dx, fs, rfl, S5' _ _ hp, hm _ (by decide +kernel), _, rfl, s, _, 0, _, rfl, rfl, S5'.seq hS, atI_nat (j := 0) rfl, _, rfl, p, _, dx, fs, _, rfl, S5' _ _ hp, T.cl_Ladder, T.n_Ladder_many, hmany, _, _, rfl, rfl, mz, p, wd, h, xs, F, _, rfl, R.same hL S5', hlen, fun z => absurd z (by omega), fun j1 e1 hj1 J1 t1 => ?_⟩
        obtain rfl : j1 = j := by omega
        have u1 := S5'.trans t1
        refine ⟨_, rfl, p, dx, fs, rfl, u1 _ _ hp, hm _ (by decide +kernel), _, rfl, s, _, 0, _, rfl, rfl, u1.seq hS, atI_nat (j := 0) rfl, _, rfl, p, _, dx, fs, _, rfl, u1 _ _ hp, T.cl_Ladder, T.n_Ladder_many, hmany, _, _, rfl, rfl, mz, p, wd, h, xs, F, _, _, rfl, view_out (R.same hL u1), hlen, fun z => absurd z (by omega), fun j2 e2 hj2 J2 G2 r2 ws v2 _ t2 _ _ er2 d2 => ⟨r2, _, rfl, .inl (SqL.of (v2.sub _ _ er2)), fun E1 nE1 => ?_⟩⟩
        obtain rfl : j2 = j1 := by omega
        have m6 := (m5.grow t1).grow t2
        have tE1 := same_upd (o := .lst ws) nE1
        have E1b := m6.bag.fresh nE1
        refine ⟨(by show 2 ≤ sizeLine; decide), fun E2 nE2 => ?_⟩
        have tE2 := same_upd (o := .lst [.int (xs.getD j2 0), .ref E1]) nE2
        have m7 := m6.grow tE1
        have E2b := m7.bag.fresh nE2
        have f8 : Dh (outF (uni B (one b)) (upd (upd J2 E1 (.lst ws)) E2 (.lst [.int (xs.getD j2 0), .ref E1]))) (.ref E2) (.list [.int (xs.getD j2 0), .list ((trailR wd h xs (xs.getD j2 0)).map stD)]) := by
          refine .lst (by rw [outF_out E2b]; exact upd_same) (.cons (.int _) (.cons (.lst (by rw [outF_out E1b]; exact tE2 _ _ upd_same) ?_) .nil))
          exact dh_bag (F := F) (m5.grow t1).bag ((t2.trans tE1).trans tE2) ((v2.sub.trans tE1).trans tE2) stD_flat d2
        have m8 := m7.grow tE2
        refine ⟨b, us3, _, rfl, rfl, m8.eD, small1000 (by omega), ?_⟩
        have m9 := m8.app (Same.refl _) f8
        have u9 : Same H (upd (upd (upd J2 E1 (.lst ws)) E2 (.lst [.int (xs.getD j2 0), .ref E1])) b (.lst (us3 ++ [.ref E2]))) := same_mut (((u1.trans t2).trans tE1).trans tE2) nb
        have ul9 : (us3 ++ [V.ref E2]).length = us3.length + 1 := by rw [List.length_append]; rfl
        revert m9 u9 ul9
        generalize (upd (upd (upd J2 E1 (.lst ws)) E2 (.lst [.int (xs.getD j2 0), .ref E1])) b (.lst (us3 ++ [.ref E2]))) = J9
        generalize us3 ++ [V.ref E2] = us4
        intro m9 u9 ul9
        clear m6 m7 m8 f8 tE1 tE2
        refine ⟨_, rfl, .inl ⟨rfl, _, SqL.of m9.eD⟩, _, rfl, p, dx, fs, rfl, u9 _ _ hp, hm _ (by decide +kernel), p, wd, h, xs, F, _, rfl, R.same hL u9, hlen, fun z => absurd z (by omega), fun k1 e1 hk1 J10 t10 => ?_⟩
        obtain rfl : k1 = 0 := by omega
        have u10 := u9.trans t10
        refine ⟨_, rfl, p, dx, fs, rfl, u10 _ _ hp, hm _ (by decide +kernel), _, rfl, p, _, dx, fs, _, rfl, u10 _ _ hp, T.cl_Ladder, T.n_Ladder_many, hmany, _, _, rfl, rfl, p, wd, h, xs, F, _, rfl, R.same hL u10, hlen, fun z => absurd z (by omega), fun k2 e2 hk2 J11 t11 => ⟨(by show 2 ≤ sizeLine; decide), fun E3 nE3 => ?_⟩⟩
        obtain rfl : k2 = xs.length - 1 := by omega
        have m11 := (m9.grow t10).grow t11
        have tE3 := same_upd (o := .lst [.int (xs.getD 0 0), .int (xs.getD (xs.length - 1) 0)]) nE3
        have f12 : Dh (outF (uni B (one b)) (upd J11 E3 (.lst [.int (xs.getD 0 0), .int (xs.getD (xs.length - 1) 0)]))) (.ref E3) (.list [.int (xs.getD 0 0), .int (xs.getD (xs.length - 1) 0)]) :=
          .lst (by rw [outF_out (m11.bag.fresh nE3)]; exact upd_same) (.cons (.int _) (.cons (.int _) .nil))
        have m12 := m11.grow tE3
        refine ⟨b, us4, _, rfl, rfl, m12.eD, small1000 (by omega), same_mut ((u10.trans t11).trans tE3) nb, us4 ++ [.ref E3], ?_, _, _, _, rfl⟩
        rw [eT]
        exact m12.app (Same.refl _) f12
      · have lp : ¬ 0 < xs.length := fun z => c (decide_eq_true (by omega))
        have eT : toldD wd h xs s0 s1 s2 = ds2 ++ [.list [dI xs, dI (stretchL' xs s1 s2), .int ((stretchL' xs s2 s1).length : Int)]] := by
          unfold toldD
          rw [if_neg lp, hd0, hd2, hd1, List.append_nil]
        refine ⟨S5', us3, ?_, _, _, _, rfl⟩
        rw [eT]
        exact m5
    rintro σ H9 ⟨S9, us9, m9, z6, z7, z8, rfl⟩
    exact ⟨_, rfl, fin S9 m9⟩
theorem ok_l_made (T : Txt K mg) (R : Rep K T.c_Ladder) (PR : Prog P w K mg base T R) : FnOk P w K mg base CX0 22 T.f_l_made T.fd_l_made ["_law_width", "_law_high", "_law_row"] (sp_l_made T R) := by
  have G_ladder_init := PR.init
  have G_ladder_put := PR.put
  refine T.F_l_made.ok sc_l_made (fun vs H Q E h => ?_) (fun cdv A outer s H vs Q E hr h => ?_)
  · obtain ⟨a, wd, h, xs, rfl, _⟩ := h
    rfl
  · obtain ⟨a, wd, h, xs, rfl, hA, ok, hlen, q⟩ := h
    refine ⟨_, (pss_cons (ps_set (i := 3) sc_l_made.nd rfl (.inl rfl) (pe_make T.mk_Ladder G_ladder_init hr (by rfl) T.x_Ladder T.bd_ladder_init .nil passL (pa_cons (pv 0) (pa_cons (pv 1) pa_nil))))
      (pss_cons (ps_for PassesOwn.never rfl (pi_reversed (by rfl) T.b_reversed (pa_cons (pv 2) pa_nil)) (pg_name (i := 4) sc_l_made.nd rfl (.inl rfl)) (pss_one (ps_expr (pe_meth (pv 3) T.cl_Ladder T.m_ladder_put G_ladder_put (hr.mono (by decide)) T.bd_ladder_put .nil passL (pa_cons (pv 4) pa_nil)))))
      (pss_one (ps_ret (pv 3))))), ?_⟩
    refine ⟨_, rfl, _, rfl, fun p dx np ndx ne => ⟨H, p, dx, wd, (h : Int), rfl, rfl, np, ndx, ne, fun z => absurd z (by have := ok.w2; have := ok.w9; have := ok.h1; have := ok.h12; omega), fun l el _ _ _ _ H1 F1 hL s1 out => ⟨rfl, ?_⟩⟩⟩
    obtain rfl : l = h := by omega
    dsimp only [gName]
    have lx : (xs.map V.int).length = xs.length := List.length_map ..
    refine ⟨_, rfl, a, _, rfl, s1.seq hA, for_back (K := K) (a := a) (xs := xs.map V.int) (fun i σ H' => ∃ F', R.Lad H' p wd l (xs.drop (xs.length - i)) F' ∧ Same H H' ∧ (∀ b, F' b → H b = none) ∧ ∃ y, σ = [nI wd, nI (l : Int), nR a, nR p, y])
      ⟨F1, by rw [Nat.sub_zero, List.drop_length]; exact hL, s1, out, none, rfl⟩ (fun i σ H' hh => ?_) ?_ ?_⟩
    · obtain ⟨F', _, sH, _⟩ := hh
      exact sH.seq hA
    · rintro i x σ H' il hi ⟨F', hl, sH, fr, y, rfl⟩
      rw [lx] at il hi
      obtain ⟨il2, rfl, mx⟩ := int_at hi
      dsimp only [gName]
      have ed : xs.drop (xs.length - 1 - i) = xs.getD (xs.length - 1 - i) 0 :: xs.drop (xs.length - i) := by
        rw [List.drop_eq_getElem_cons il2, getD_eq il2]
        congr 2
        omega
      have gt : ∀ y ∈ xs.drop (xs.length - i), xs.getD (xs.length - 1 - i) 0 < y := by
        have r2 := ok.rise.sublist (List.drop_sublist (xs.length - 1 - i) xs)
        rw [ed] at r2
        exact (List.pairwise_cons.mp r2).1
      obtain ⟨dx2, fs2, hp2, _, _, _, _, hm2⟩ := R.ins hl
      have ld : (xs.drop (xs.length - i)).length ≤ 150 := by
        rw [List.length_drop]
        omega
      have b0 := ok.lo _ mx
      have b1 := ok.hi _ mx
      refine ⟨_, rfl, p, dx2, fs2, rfl, hp2, hm2 _ (by decide +kernel), _, rfl, p, wd, l, _, F', _, _, rfl, view_out hl, ld, fun z => absurd z (by omega), fun m => absurd (gt _ m) (by omega), fun _ _ _ H3 G3 F3 r us v3 s3 _ _ _ => ?_⟩
      have fr3 := (frame_view v3 s3).fresh sH fr
      have l3 := v3.lad
      rw [insR_first gt, ← ed] at l3
      refine ⟨F3, ?_, fr3.1, fr3.2, _, rfl⟩
      rw [show xs.length - (i + 1) = xs.length - 1 - i by omega]
      exact l3
    rintro σ H' ⟨F', hl, sH, fr, y, rfl⟩
    rw [lx, Nat.sub_self, List.drop_zero] at hl
    exact ⟨_, rfl, q H' p F' hl sH fr⟩
theorem ok_l_refused (T : Txt K mg) (R : Rep K T.c_Ladder) (PR : Prog P w K mg base T R) : FnOk P w K mg base CX0 21 T.f_l_refused T.fd_l_refused ["_law_ladder", "_law_other"] (sp_l_refused T R) := by
  have G_poured := PR.poured
  refine T.F_l_refused.ok sc_l_refused (fun vs H Q E h => ?_) (fun cdv A outer s H vs Q E hr h => ?_)
  · obtain ⟨p, p2, wd, w2, h, h2, xs, ys, F, F2, rfl, _⟩ := h
    rfl
  · obtain ⟨p, p2, wd, w2, h, h2, xs, ys, F, F2, rfl, hL, hM, hlen, other, dup, apart, good⟩ := h
    refine ⟨_, (pss_cons (ps_try_manyAs (i := 2) rfl rfl sc_l_refused.nd rfl rfl takes0 (fun W pn xe tk _ => (pss_one (ps_expr (pe_callS G_poured hr (by rfl) T.g_poured T.F_poured.kp T.bd_poured (fun σ => passAt tk σ) (pa_cons (pv 0) (pa_cons (pv 1) pa_nil)))))) (.cons ⟨rfl, by decide, .inl T.x_OtherSize⟩ (fun a oe cls dd pn hz hf => (pss_one (ps_ret (pe_callTy call_int1 (by rfl) T.b_int (by decide +kernel) (pa_cons (pe_and (pe_callB (call_isEx hz hf) (by rfl) T.b_isinstance (by decide +kernel) (pa_cons (pv 2) (pa_cons (pe_glob (v := .ref T.c_LadderError) (by rfl) T.x_LadderError rfl) pa_nil))) (pe_one (pe_callB (call_isEx hz hf) (by rfl) T.b_isinstance (by decide +kernel) (pa_cons (pv 2) (pa_cons (pe_bltn (v := .ty "ValueError") (by rfl) T.b_ValueError (by decide +kernel) rfl) pa_nil))))) pa_nil))))) (.cons ⟨rfl, by decide, .inl T.x_Present⟩ (fun a oe cls dd pn hz hf => (pss_one (ps_ret (pe_op op_mul pe_int (pe_callTy call_int1 (by rfl) T.b_int (by decide +kernel) (pa_cons (pe_and (pe_callB (call_isEx hz hf) (by rfl) T.b_isinstance (by decide +kernel) (pa_cons (pv 2) (pa_cons (pe_glob (v := .ref T.c_LadderError) (by rfl) T.x_LadderError rfl) pa_nil))) (pe_one (pe_callB (call_isEx hz hf) (by rfl) T.b_isinstance (by decide +kernel) (pa_cons (pv 2) (pa_cons (pe_bltn (v := .ty "ValueError") (by rfl) T.b_ValueError (by decide +kernel) rfl) pa_nil))))) pa_nil)))))) .nil)))
      (pss_one (ps_ret pe_int))), ?_⟩
    refine ⟨_, rfl, _, rfl, p, p2, wd, w2, h, h2, xs, ys, F, F2, rfl, hL, hM, hlen, fun ne H1 s1 => ?_, fun e1 e2 ex H1 s1 => ?_, apart, fun e1 e2 dis H1 F1 l1 fr => good e1 e2 dis H1 F1 l1 fr⟩
    · refine ⟨true, T.exm_OtherSize_OtherSize, fun _ a na => ?_, (fun z => nomatch z)⟩
      exact ⟨_, rfl, T.c_OtherSize, .ref T.c_LadderError, .ref T.c_LadderError, true, rfl, rfl, T.ec_OtherSize, rfl, fun _ r => r, T.kit_OtherSize_LadderError, true, rfl, _, rfl, T.c_OtherSize, .ty "ValueError", .type "ValueError", true, rfl, rfl, T.ec_OtherSize, rfl, fun _ r => r, T.kit_OtherSize_ValueError, .inr ⟨true, rfl, other ne H1 s1⟩⟩
    · refine ⟨false, T.exm_Present_OtherSize, (fun z => nomatch z), fun _ => ⟨true, T.exm_Present_Present, fun _ a na => ?_, (fun z => nomatch z)⟩⟩
      exact ⟨_, rfl, T.c_Present, .ref T.c_LadderError, .ref T.c_LadderError, true, rfl, rfl, T.ec_Present, rfl, fun _ r => r, T.kit_Present_LadderError, true, rfl, _, rfl, T.c_Present, .ty "ValueError", .type "ValueError", true, rfl, rfl, T.ec_Present, rfl, fun _ r => r, T.kit_Present_ValueError, .inr ⟨true, rfl, _, _, rfl, rfl, .inl ⟨by decide, by decide⟩, dup e1 e2 ex H1 s1⟩⟩
theorem ok_l_refused_by_any (T : Txt K mg) (R : Rep K T.c_Ladder) (PR : Prog P w K mg base T R) : FnOk P w K mg base CX0 21 T.f_l_refused_by_any T.fd_l_refused_by_any ["_law_ladder", "_law_number_here"] (sp_l_refused_by_any T R) := by
  have G_cut := PR.cut_
  refine T.F_l_refused_by_any.ok sc_l_refused_by_any (fun vs H Q E h => ?_) (fun cdv A outer s H vs Q E hr h => ?_)
  · obtain ⟨p, wd, h, xs, F, n, rfl, _⟩ := h
    rfl
  · obtain ⟨p, wd, h, xs, F, n, rfl, hL, hlen, hbad, q⟩ := h
    refine ⟨_, (pss_cons (ps_set (i := 2) sc_l_refused_by_any.nd rfl (.inl rfl) pe_int)
      (pss_cons (ps_try_only rfl rfl ⟨rfl, by decide, .inl T.x_OutOfRange⟩ takes0 (fun W pn xe tk _ => (pss_one (ps_expr (pe_callS G_cut hr (by rfl) T.g_cut T.F_cut.kp T.bd_cut (fun σ => passAt tk σ) (pa_cons (pv 0) (pa_cons (pv 1) pa_nil)))))) (fun a oe cls dd pn hz hf => (pss_one (ps_set (i := 2) sc_l_refused_by_any.nd rfl (.inl rfl) (pe_op op_add (pv 2) pe_int)))))
      (pss_cons (ps_try_as (i := 3) rfl rfl sc_l_refused_by_any.nd rfl rfl ⟨rfl, by decide, .inl T.x_LadderError⟩ takes0 (fun W pn xe tk _ => (pss_one (ps_expr (pe_callS G_cut hr (by rfl) T.g_cut T.F_cut.kp T.bd_cut (fun σ => passAt tk σ) (pa_cons (pv 0) (pa_cons (pv 1) pa_nil)))))) (fun a oe cls dd pn hz hf => (pss_one (ps_set (i := 2) sc_l_refused_by_any.nd rfl (.inl rfl) (pe_op op_add (pv 2) (pe_callTy call_int1 (by rfl) T.b_int (by decide +kernel) (pa_cons (pe_callB (call_isEx hz hf) (by rfl) T.b_isinstance (by decide +kernel) (pa_cons (pv 3) (pa_cons (pe_bltn (v := .ty "ValueError") (by rfl) T.b_ValueError (by decide +kernel) rfl) pa_nil))) pa_nil)))))))
      (pss_one (ps_ret (pe_cmpR op_eq (pv 2) pe_int (nomark _))))))), ?_⟩
    show tSeq _ _ _ [nR p, nI n, nI 0, none] _
    refine ⟨_, rfl, _, rfl, p, wd, h, xs, F, n, rfl, hL, hlen, fun _ H1 s1 => ⟨true, T.exm_OutOfRange_OutOfRange, fun _ a na => ⟨_, rfl, _, _, rfl, rfl, ?_⟩, (fun z => nomatch z)⟩, fun a b => absurd hbad (by omega)⟩
    refine ⟨_, rfl, _, rfl, p, wd, h, xs, F, n, rfl, R.same hL s1, hlen, fun _ H2 s2 => ⟨true, T.exm_OutOfRange_LadderError, fun _ a na => ?_, (fun z => nomatch z)⟩, fun a b => absurd hbad (by omega)⟩
    refine ⟨_, rfl, _, rfl, T.c_OutOfRange, .ty "ValueError", .type "ValueError", true, rfl, rfl, T.ec_OutOfRange, rfl, fun _ r => r, T.kit_OutOfRange_ValueError, .inr ⟨true, rfl, _, _, rfl, rfl, ?_⟩⟩
    refine ⟨_, rfl, rfl, ?_⟩
    show Q (.bl (decide (V.int 2 = V.int 2))) H2
    rw [decide_eq_true rfl]
    exact q H2 (s1.trans s2)
theorem ok_l_ends (T : Txt K mg) (R : Rep K T.c_Ladder) (PR : Prog P w K mg base T R) : FnOk P w K mg base CX0 21 T.f_l_ends T.fd_l_ends ["_law_ladder", "_law_gone"] (sp_l_ends T R) := by
  have G_ladder_at := PR.at_
  have G_ladder_way := PR.way
  have G_ladder_ahead := PR.ahead
  refine T.F_l_ends.ok sc_l_ends (fun vs H Q E h => ?_) (fun cdv A outer s H vs Q E hr h => ?_)
  · obtain ⟨p, wd, h, xs, F, n, rfl, _⟩ := h
    rfl
  · obtain ⟨p, wd, h, xs, F, n, rfl, hL, hlen, hn, q⟩ := h
    refine ⟨_, (pss_cons (ps_set (i := 2) sc_l_ends.nd rfl (.inl rfl) pe_int)
      (pss_cons (ps_try_only rfl rfl ⟨rfl, by decide, .inl T.x_NoPlace⟩ takes0 (fun W pn xe tk _ => (pss_one (ps_expr (pe_methS (pv 0) T.cl_Ladder T.m_ladder_at G_ladder_at hr T.bd_ladder_at (fun σ => passAt tk σ) (pa_cons (show PE _ _ (tFld K _ _) from (pe_fld (pv 0) rfl)) pa_nil))))) (fun a oe cls dd pn hz hf => (pss_one (ps_set (i := 2) sc_l_ends.nd rfl (.inl rfl) (pe_op op_add (pv 2) pe_int)))))
      (pss_cons (ps_try_only rfl rfl ⟨rfl, by decide, .inl T.x_NoPlace⟩ takes0 (fun W pn xe tk _ => (pss_one (ps_expr (pe_methS (pv 0) T.cl_Ladder T.m_ladder_way G_ladder_way hr T.bd_ladder_way (fun σ => passAt tk σ) (pa_cons (show PE _ _ (tFld K _ _) from (pe_fld (pv 0) rfl)) pa_nil))))) (fun a oe cls dd pn hz hf => (pss_one (ps_set (i := 2) sc_l_ends.nd rfl (.inl rfl) (pe_op op_add (pv 2) pe_int)))))
      (pss_cons (ps_for PassesOwn.never rfl (pi_range1 (by rfl) T.b_range (pa_cons (pe_op op_add (pe_fld (pv 0) rfl) pe_int) pa_nil)) (pg_name (i := 3) sc_l_ends.nd rfl (.inl rfl)) (pss_one (ps_try_only rfl rfl ⟨rfl, by decide, .inl T.x_Missing⟩ takes0 (fun W pn xe tk _ => (pss_one (ps_expr (pe_methS (pv 0) T.cl_Ladder T.m_ladder_ahead G_ladder_ahead hr T.bd_ladder_ahead (fun σ => passAt tk σ) (pa_cons (pv 3) (pa_cons (pv 1) pa_nil)))))) (fun a oe cls dd pn hz hf => (pss_one (ps_set (i := 2) sc_l_ends.nd rfl (.inl rfl) (pe_op op_add (pv 2) pe_int)))))))
      (pss_one (ps_ret (pe_cmpR op_eq (pv 2) (pe_op op_add pe_int (pe_fld (pv 0) rfl)) (nomark _)))))))), ?_⟩
    obtain ⟨dx, fs, hp, _, hhigh, _, hmany, hm⟩ := R.ins hL
    have ok := R.ok hL
    have h12 := ok.h12
    show tSeq _ _ _ [nR p, nI n, nI 0, none] _
    refine ⟨_, rfl, p, dx, fs, rfl, hp, hm _ (by decide +kernel), _, rfl, p, _, dx, fs, _, rfl, hp, T.cl_Ladder, T.n_Ladder_many, hmany, p, wd, h, xs, F, _, rfl, hL, hlen, fun _ H1 s1 => ⟨true, T.exm_NoPlace_NoPlace, fun _ a na => ⟨_, rfl, _, _, rfl, rfl, ?_⟩, (fun z => nomatch z)⟩, fun j ej hj => absurd hj (by omega)⟩
    refine ⟨_, rfl, p, dx, fs, rfl, s1 _ _ hp, hm _ (by decide +kernel), _, rfl, p, _, dx, fs, _, rfl, s1 _ _ hp, T.cl_Ladder, T.n_Ladder_many, hmany, p, wd, h, xs, F, _, _, rfl, View.nothing (R.same hL s1), hlen, fun _ H2 s2 => ⟨true, T.exm_NoPlace_NoPlace, fun _ a na => ⟨_, rfl, _, _, rfl, rfl, ?_⟩, (fun z => nomatch z)⟩, fun j ej hj => absurd hj (by omega)⟩
    have u2 := s1.trans s2
    show tSeq _ _ _ [nR p, nI n, nI 2, none] _
    refine ⟨_, rfl, p, _, dx, fs, _, rfl, u2 _ _ hp, T.cl_Ladder, T.n_Ladder_high, hhigh, _, _, rfl, rfl, ((h + 1 : Nat) : Int), rfl, by omega, by omega, for_range (lo := 0) (n := h + 1) (tb := fun D σ H => tDrop (tMethS _ _ _ (WE (wOnly _ _ _ _ D)) _ _) D σ H) (fun i σ H' => Same H H' ∧ ∃ y, σ = [nR p, nI n, nI (2 + (i : Int)), y]) ⟨u2, none, rfl⟩ ?_ ?_⟩
    · rintro i σ H' hi ⟨s1, y, rfl⟩
      rw [Int.zero_add]
      refine ⟨_, rfl, p, dx, fs, rfl, s1 _ _ hp, hm _ (by decide +kernel), _, rfl, _, rfl, p, wd, h, xs, F, (i : Int), n, rfl, R.same hL s1, hlen, fun z => absurd z (by omega), fun l el hl _ H1 s2 => ⟨true, T.exm_Missing_Missing, fun _ a na => ⟨_, rfl, _, _, rfl, rfl, s1.trans s2, nI (i : Int), ?_⟩, (fun z => nomatch z)⟩, fun l el hl mem => absurd (levL_mem mem) hn⟩
      show [nR p, nI n, nI (2 + (i : Int) + 1), nI (i : Int)] = _
      rw [show 2 + (i : Int) + 1 = 2 + ((i + 1 : Nat) : Int) by omega]
    · rintro σ H' ⟨s1, y, rfl⟩
      refine ⟨_, rfl, _, rfl, p, _, dx, fs, _, rfl, s1 _ _ hp, T.cl_Ladder, T.n_Ladder_high, hhigh, _, _, rfl, rfl, rfl, ?_⟩
      show Q (.bl (decide (V.int (2 + ((h + 1 : Nat) : Int)) = V.int (3 + (h : Int))))) H'
      rw [decide_eq_true (congrArg V.int (by omega))]
      exact q H' s1
theorem ok_l_is_there (T : Txt K mg) (R : Rep K T.c_Ladder) (PR : Prog P w K mg base T R) : FnOk P w K mg base CX0 21 T.f_l_is_there T.fd_l_is_there ["_law_ladder", "_law_number_here"] (sp_l_is_there T R) := by
  have G_ladder_ahead := PR.ahead
  have G_ladder_way := PR.way
  have G_ladder_at := PR.at_
  have G_ladder_level := PR.level
  refine T.F_l_is_there.ok sc_l_is_there (fun vs H Q E h => ?_) (fun cdv A outer s H vs Q E hr h => ?_)
  · obtain ⟨p, wd, h, xs, F, n, rfl, _⟩ := h
    rfl
  · obtain ⟨p, wd, h, xs, F, n, rfl, hL, hlen, hn, q⟩ := h
    refine ⟨_, (pss_one (ps_try_only rfl rfl ⟨rfl, by decide, .inl T.x_LadderError⟩ takes0 (fun W pn xe tk _ => (pss_cons (ps_if (PW.pt (pw_or (pt_cmpR (show OpR _ _ (rEqD K) from op_eqD hr.units) (pe_methS (pv 0) T.cl_Ladder T.m_ladder_way G_ladder_way hr T.bd_ladder_way (fun σ => passAt tk σ) (pa_cons (pe_op op_sub (show PE _ _ (tFld K _ _) from (pe_fld (pv 0) rfl)) pe_int) pa_nil)) (pe_lst pa_nil) (nomark _)) (pw_or1 (pt_cmpR op_lt (pe_methS (pv 0) T.cl_Ladder T.m_ladder_at G_ladder_at hr T.bd_ladder_at (fun σ => passAt tk σ) (pa_cons (pe_op op_sub (show PE _ _ (tFld K _ _) from (pe_fld (pv 0) rfl)) pe_int) pa_nil)) (pv 1) (nomark _))))) (pss_one (ps_ret pe_bl)) pss_nil)
      (pss_cons (ps_setLc (i := 2) (own := [("_law_level", 4)]) (g := gName 4) (by rfl) sc_l_is_there.nd rfl rfl (sw_true rfl rfl rfl (by decide +kernel)) (pi_range1 (by rfl) T.b_range (pa_cons (pe_op op_add (show PE _ _ (tFld K _ _) from (pe_fld (pv 0) rfl)) pe_int) pa_nil)) (blkOk_by (own := [("_law_level", 4)]) (N := ["_law_ladder", "_law_number_here", "_law_levels", "_law_told_here", "_law_level", "_law_one"]) (sc := defScope s_l_is_there) (by decide +kernel)) (fun _ _ _ _ _ => (pg_name (i := 4) sc_l_is_there.nd rfl (Or.inl rfl))) (fun _ _ _ _ _ => (pts_one (pt_cmpR (show OpR _ _ (rIn K false) from op_in_seq) (pv 1) (pe_meth (pv 0) T.cl_Ladder T.m_ladder_level G_ladder_level hr T.bd_ladder_level .nil passL (pa_cons (pv 4) pa_nil)) (by rfl)))) (fun _ _ _ _ _ => (pv 4)))
      (pss_cons (ps_setLc (i := 3) (own := [("_law_level", 4)]) (g := gName 4) (by rfl) sc_l_is_there.nd rfl rfl (sw_true rfl rfl rfl (by decide +kernel)) (show PI _ _ _ (iList K _) from (pi_list (pv 2))) (blkOk_by (own := [("_law_level", 4)]) (N := ["_law_ladder", "_law_number_here", "_law_levels", "_law_told_here", "_law_level", "_law_one"]) (sc := defScope s_l_is_there) (by decide +kernel)) (fun _ _ _ _ _ => (pg_name (i := 4) sc_l_is_there.nd rfl (Or.inl rfl))) (fun _ _ _ _ _ => pts_nil) (fun _ _ _ _ _ => (pe_meth (pv 0) T.cl_Ladder T.m_ladder_ahead G_ladder_ahead hr T.bd_ladder_ahead .nil passL (pa_cons (pv 4) (pa_cons (pv 1) pa_nil)))))
      (pss_one (ps_ret (pe_and (pe_cmpR (show OpR _ _ (rNeD K) from op_neD hr.units) (pv 3) (pe_lst pa_nil) (nomark _)) (pe_one (pe_callB (show CallR _ (.builtin "all") (rAll K) from cr_all rfl) (by rfl) T.b_all (by decide +kernel) (pa_cons (pe_lc (own := [("_law_one", 5)]) (g := gName 5) (by rfl) sc_l_is_there.nd (show PI _ _ _ (iList K _) from (pi_list (pv 3))) (blkOk_by (own := [("_law_one", 5)]) (N := ["_law_ladder", "_law_number_here", "_law_levels", "_law_told_here", "_law_level", "_law_one"]) (sc := defScope s_l_is_there) (by decide +kernel)) (fun _ _ _ _ _ => (pg_name (i := 5) sc_l_is_there.nd rfl (Or.inl rfl))) (fun _ _ _ _ _ => pts_nil) (fun _ _ _ _ _ => (pe_callB (show CallR _ _ (rIsi K) from call_isi) (by rfl) T.b_isinstance (by decide +kernel) (pa_cons (pv 5) (pa_cons (pe_bltn (v := .ty "tuple") (by rfl) T.b_tuple (by decide +kernel) rfl) pa_nil))))) pa_nil)))))))))) (fun a oe cls dd pn hz hf => (pss_one (ps_ret pe_bl))))), ?_⟩
    obtain ⟨dx, fs, hp, _, hhigh, _, hmany, hm⟩ := R.ins hL
    have ok := R.ok hL
    have h12 := ok.h12
    have lp : 0 < xs.length := List.length_pos_of_mem hn
    have hlast : xs.length - 1 < xs.length := by omega
    have nle : n ≤ xs.getD (xs.length - 1) 0 := by
      obtain ⟨k, hk, rfl⟩ := at_of_mem hn
      by_cases c : k = xs.length - 1
      · rw [c]
        omega
      · exact Int.le_of_lt (rise_getD ok.rise (show k < xs.length - 1 by omega) hlast)
    refine ⟨_, rfl, p, dx, fs, rfl, hp, hm _ (by decide +kernel), _, rfl, p, _, dx, fs, _, rfl, hp, T.cl_Ladder, T.n_Ladder_many, hmany, _, _, rfl, rfl, p, wd, h, xs, F, _, _, rfl, view_out hL, hlen, fun z => absurd z (by omega), fun j ej hj H1 G1 r1 us v1 _ s1 _ _ e1 d1 => ?_⟩
    have tn := trail_some (w := wd) (h := h) ok.rise hj
    refine ⟨(by show 0 ≤ sizeLine; decide), fun z nz => ?_⟩
    have sz := same_upd (o := .lst []) nz
    have u2 := s1.trans sz
    refine eqD_ne (Dh.lst (sz _ _ (v1.sub _ _ e1)) ((d1.same v1.sub).same sz)).dp (Dh.lst upd_same .nil).dp (shaped_trail _) rfl (eqv_nil fun e => tn (List.map_eq_nil_iff.mp e)) ⟨false, rfl, iteF ?_⟩
    refine ⟨_, rfl, p, dx, fs, rfl, u2 _ _ hp, hm _ (by decide +kernel), _, rfl, p, _, dx, fs, _, rfl, u2 _ _ hp, T.cl_Ladder, T.n_Ladder_many, hmany, _, _, rfl, rfl, p, wd, h, xs, F, _, rfl, R.same hL u2, hlen, fun z => absurd z (by omega), fun j2 ej2 hj2 H2 s2 => ?_⟩
    obtain rfl : j2 = xs.length - 1 := by omega
    refine ⟨_, rfl, _, _, rfl, rfl, _, rfl, ite2 (fun z => absurd (of_decide_eq_true z) (by omega)) (fun _ => ?_)⟩
    have u3 := u2.trans s2
    have hp3 := u3 _ _ hp
    have hL3 := R.same hL u3
    clear sz u2 s2 e1 d1 v1 s1
    -- the levels
    dsimp only [tNext]
    refine Evl.q_asgL (xs := (((List.range (h + 1)).filter fun i => decide (n ∈ levL wd i xs)).map fun i : Nat => (i : Int)).map V.int) ?_ fun D H4 nD s4 hD => ?_
    · have eg : (((List.range (h + 1)).filter fun i => decide (n ∈ levL wd i xs)).map fun i : Nat => (i : Int)).map V.int = Evl.given ((h : Int) + 1).toNat (fun i => decide (n ∈ levL wd i xs)) (fun i => V.int (i : Int)) := by
        unfold Evl.given
        rw [List.map_map, show ((h : Int) + 1).toNat = h + 1 by omega]
        rfl
      rw [eg]
      refine Evl.el_lcR1 _ _ (Evl.ea_cons (Evl.ev_op (ev_fld (Evl.ev_var rfl) hp3 T.cl_Ladder T.n_Ladder_high hhigh) Evl.ev_c Evl.rv_I0) Evl.ea_nil) ⟨by omega, by omega⟩ (fun _ => rfl) (fun i H4 e4 hi => ?_) (fun i H4 e4 hi _ => Evl.ev_var rfl)
      refine Evl.et_test (Evl.ev_opL (xs := (levL wd i xs).map V.int) (Evl.ev_var rfl) (fun H5 e5 Q5 q5 => ?_) fun q H5 hq e5 => rv_inI (SqL.of hq))
      exact ⟨_, rfl, p, dx, fs, rfl, e5 _ _ (e4 _ _ hp3), hm _ (by decide +kernel), _, rfl, p, wd, h, xs, F, (i : Int), rfl, R.same (R.same hL3 e4) e5, hlen, fun z => absurd z (by omega), fun l el hl H9 r9 s9 n9 h9 => by
        obtain rfl : l = i := by omega
        exact q5 r9 H9 n9 s9 h9⟩
    have lm : ∀ l ∈ (((List.range (h + 1)).filter fun i => decide (n ∈ levL wd i xs)).map fun i : Nat => (i : Int)), ∃ k : Nat, l = (k : Int) ∧ k ≤ h ∧ n ∈ levL wd k xs := fun l hl => by
      obtain ⟨k, hk, rfl⟩ := List.mem_map.mp hl
      have q := List.mem_filter.mp hk
      exact ⟨k, rfl, by have := List.mem_range.mp q.1; omega, of_decide_eq_true q.2⟩
    have ne : (((List.range (h + 1)).filter fun i => decide (n ∈ levL wd i xs)).map fun i : Nat => (i : Int)) ≠ [] := fun e => by
      have m : 0 ∈ (List.range (h + 1)).filter fun i => decide (n ∈ levL wd i xs) := List.mem_filter.mpr ⟨List.mem_range.mpr (by omega), decide_eq_true (lev_zero' ok.w2 ok.rise hn)⟩
      rw [List.map_eq_nil_iff] at e
      rw [e] at m
      cases m
    have ll : (((List.range (h + 1)).filter fun i => decide (n ∈ levL wd i xs)).map fun i : Nat => (i : Int)).length ≤ 13 := by
      rw [List.length_map]
      have := List.length_filter_le (fun i => decide (n ∈ levL wd i xs)) (List.range (h + 1))
      rw [List.length_range] at this
      omega
    revert hD lm ne ll
    generalize (((List.range (h + 1)).filter fun i => decide (n ∈ levL wd i xs)).map fun i : Nat => (i : Int)) = ls
    intro hD lm ne ll
    have u4 := u3.trans s4
    -- what is ahead there
    show tSeq _ _ _ [nR p, nI n, nR D, none, none, none] _
    refine ⟨_, rfl, D, rfl, ⟨_, SqL.of hD⟩, fun E nE => ?_⟩
    have hE := same_upd (o := .lst []) nE
    refine lc_list (K := K) (a := D) (xs := ls.map V.int) (fun j H' => Same H4 H' ∧ ∃ ws, Mk14 (one E) E H' ws ((ls.take j).map fun l => aheadD wd l.toNat xs n) ∧ ws.length = j) ⟨hE, [], ⟨Bag.one upd_same, rfl, upd_same, .nil⟩, rfl⟩ (fun j H' _ hh => SqL.of (hh.1 _ _ hD)) (fun j x H' hj hh => ?_) (fun H6 hh => ?_)
    · obtain ⟨sE, ws, mw, wl⟩ := hh
      obtain ⟨jl, rfl, mx⟩ := int_at hj
      have S5 := u4.trans sE
      obtain ⟨k, ek, hk, hkn⟩ := lm _ mx
      refine ⟨rfl, ?_⟩
      dsimp only [tYes]
      rw [if_pos rfl]
      refine ⟨_, rfl, p, dx, fs, rfl, S5 _ _ hp, hm _ (by decide +kernel), _, rfl, _, rfl, p, wd, h, xs, F, _, _, rfl, R.same hL S5, hlen, fun z => absurd z (by omega), fun l3 e3 hl3 nm => ?_, fun l3 e3 hl3 hn3 H7 t5 s5 n5 h5 => ⟨ws, s5 _ _ mw.eD, small1000 (by omega), same_mut (sE.trans s5) nE, ws ++ [.ref t5], ?_, by rw [List.length_append, wl]; rfl⟩⟩
      · obtain rfl : l3 = k := by omega
        exact absurd hkn nm
      · have et : (ls.take (j + 1)).map (fun l => aheadD wd l.toNat xs n) = (ls.take j).map (fun l => aheadD wd l.toNat xs n) ++ [aheadD wd l3 xs n] := by
          rw [List.take_succ, List.getElem?_eq_getElem jl, List.map_append]
          have e5 : ls[j].toNat = l3 := by
            rw [← getD_eq jl, e3, Int.toNat_natCast]
          show _ ++ [aheadD wd ls[j].toNat xs n] = _
          rw [e5]
        rw [et]
        exact mw.app s5 (.tup (by rw [outF_out (mw.bag.fresh n5)]; exact h5) (.cons (dh_o _ _) (.cons (.int _) .nil)))
    obtain ⟨sE, ws, mw, wl⟩ := hh
    rw [List.length_map, List.take_length] at mw
    dsimp only [gName]
    have da := mw.all.same own_sub
    refine ⟨_, rfl, (by show 0 ≤ sizeLine; decide), fun z nz => ?_⟩
    have sz := same_upd (o := .lst []) nz
    refine neD_no (Dh.lst (sz _ _ mw.eD) (da.same sz)).dp (Dh.lst upd_same .nil).dp (shaped_list 1 (fun d hd => ?_) (by decide)) rfl (eqv_nil fun e => ne (List.map_eq_nil_iff.mp e)) ⟨true, rfl, ?_⟩
    · obtain ⟨l, _, rfl⟩ := List.mem_map.mp hd
      unfold aheadD
      cases nextO wd l.toNat xs n <;> exact ⟨rfl, Nat.le_refl _⟩
    refine ev_use (v := .bl true) (ev_allL (n := ws.length) (Evl.el_lcL (fun _ => true) (fun _ => V.bl true) (Evl.ev_var (by rfl)) (SqL.of (sz _ _ mw.eD)) (by rw [wl, List.length_map]; omega) (by intro _; rfl) (fun i x H6 e6 hx => et_yes) (fun i x H6 e6 hx _ => ?_))) (fun H7 s7 => q H7 (((u4.trans sE).trans sz).trans s7))
    intro H7 e7 Q7 q7
    obtain ⟨d, hd, dv⟩ := da.get hx
    rw [List.getElem?_map] at hd
    obtain ⟨l, _, rfl⟩ := Option.map_eq_some_iff.mp hd
    unfold aheadD at dv
    cases dv with
    | @tup t us _ et _ =>
      exact ⟨_, rfl, .ref t, .ty "tuple", .type "tuple", .type "tuple", true, rfl, .ty _, .base (.tup (e7 _ _ (e6 _ _ (sz _ _ et)))), kit_ty (by decide +kernel), q7 H7 (Evl.Ex.refl _)⟩
theorem ok_l_half (T : Txt K mg) (R : Rep K T.c_Ladder) (PR : Prog P w K mg base T R) : FnOk P w K mg base CX0 23 T.f_l_half T.fd_l_half ["_law_ladder", "_law_row", "_law_spot"] (sp_l_half T R) := by
  have G_ladder_init := PR.init
  have G_ladder_put := PR.put
  have G_l_told : FnOk P w K mg base CX0 21 T.f_l_told T.fd_l_told ["_law_ladder", "_law_spot"] (sp_l_told T R) := ok_l_told T R PR
  have G_l_refused : FnOk P w K mg base CX0 21 T.f_l_refused T.fd_l_refused ["_law_ladder", "_law_other"] (sp_l_refused T R) := ok_l_refused T R PR
  have G_ladder_has := PR.has
  refine T.F_l_half.ok sc_l_half (fun vs H Q E h => ?_) (fun cdv A outer s H vs Q E hr h => ?_)
  · obtain ⟨p, a, s, wd, h, xs, F, s0, s1, s2, rfl, _⟩ := h
    rfl
  · obtain ⟨p, a, s, wd, h, xs, F, s0, s1, s2, rfl, hL, hA, hS, a0, a1, b0, b1, hlen, q⟩ := h
    refine ⟨_, (pss_cons (ps_if (pt_cmpR (op_eqD hr.units) (pv 1) (pe_lst pa_nil) (nomark _)) (pss_one (ps_ret pe_bl)) pss_nil)
      (pss_cons (ps_set (i := 3) sc_l_half.nd rfl (.inl rfl) (pe_make T.mk_Ladder G_ladder_init (hr.mono (by decide)) (by rfl) T.x_Ladder T.bd_ladder_init .nil passL (pa_cons (pe_fld (pv 0) rfl) (pa_cons (pe_fld (pv 0) rfl) pa_nil))))
      (pss_cons (ps_expr (pe_meth (pv 3) T.cl_Ladder T.m_ladder_put G_ladder_put (hr.mono (by decide)) T.bd_ladder_put .nil passL (pa_cons (pe_ix ix_list (pv 1) (pe_op op_mod (pe_ix ix_list (pv 2) pe_int (fun _ _ => rfl)) (pe_callB call_len_seq (by rfl) T.b_len PySem.boot_len (pa_cons (pv 1) pa_nil))) (fun _ _ => rfl)) pa_nil)))
      (pss_cons (ps_for PassesOwn.never rfl (pi_list (pe_lst (pa_cons pe_int (pa_cons pe_int (pa_cons pe_int (pa_cons (pe_op op_fdivW (pe_fld (pv 0) rfl) pe_int) (pa_cons (pe_op op_sub (pe_fld (pv 0) rfl) pe_int) (pa_cons (pe_op op_sub (pe_fld (pv 0) rfl) pe_int) pa_nil)))))))) (pg_name (i := 4) sc_l_half.nd rfl (.inl rfl)) (pss_one (ps_if (PW.pt (pw_and (pt_cmpR op_lt (pv 4) (pe_fld (pv 0) rfl) (nomark _)) (pw_and (pt_cmpR op_notIn_seq (pv 4) (pv 1) (by rfl)) (pw_and1 (pt_not (pt_val (pe_meth (pv 3) T.cl_Ladder T.m_ladder_has G_ladder_has (hr.mono (by decide)) T.bd_ladder_has .nil passL (pa_cons (pv 4) pa_nil)))))))) (pss_one (ps_expr (pe_meth (pv 3) T.cl_Ladder T.m_ladder_put G_ladder_put (hr.mono (by decide)) T.bd_ladder_put .nil passL (pa_cons (pv 4) pa_nil)))) pss_nil)))
      (pss_cons (ps_set (i := 5) sc_l_half.nd rfl (.inl rfl) (pe_call G_l_told (hr.mono (by decide)) (by rfl) T.g_l_told T.F_l_told.kp T.bd_l_told .nil pass0 (pa_cons (pv 0) (pa_cons (pv 2) pa_nil))))
      (pss_cons (ps_set (i := 6) sc_l_half.nd rfl (.inl rfl) (pe_call G_l_told (hr.mono (by decide)) (by rfl) T.g_l_told T.F_l_told.kp T.bd_l_told .nil pass0 (pa_cons (pv 3) (pa_cons (pv 2) pa_nil))))
      (pss_cons (ps_if (PW.pt (pw_or (pt_cmpR op_ne (pe_call G_l_refused (hr.mono (by decide)) (by rfl) T.g_l_refused T.F_l_refused.kp T.bd_l_refused .nil pass0 (pa_cons (pv 0) (pa_cons (pv 3) pa_nil))) pe_int (nomark _)) (pw_or1 (pt_cmpR op_ne (pe_call G_l_refused (hr.mono (by decide)) (by rfl) T.g_l_refused T.F_l_refused.kp T.bd_l_refused .nil pass0 (pa_cons (pv 3) (pa_cons (pv 0) pa_nil))) pe_int (nomark _))))) (pss_one (ps_ret pe_bl)) pss_nil)
      (pss_one (ps_ret (pe_and (pe_cmpR (op_eqD hr.units) (pe_call G_l_told (hr.mono (by decide)) (by rfl) T.g_l_told T.F_l_told.kp T.bd_l_told .nil pass0 (pa_cons (pv 0) (pa_cons (pv 2) pa_nil))) (pv 5) (nomark _)) (pe_one (pe_cmpR (op_eqD hr.units) (pe_call G_l_told (hr.mono (by decide)) (by rfl) T.g_l_told T.F_l_told.kp T.bd_l_told .nil pass0 (pa_cons (pv 3) (pa_cons (pv 2) pa_nil))) (pv 6) (nomark _))))))))))))), ?_⟩
    obtain ⟨dx, fs, hp, hwidth, hhigh, hlimit, hmany, hm⟩ := R.ins hL
    have ok := R.ok hL
    have pl := pow_ge2 ok.w2 ok.h1
    refine Evl.q_when (b := decide (xs = [])) (Evl.et_test (Evl.ev_opL (Evl.ev_var rfl) (Evl.el_lst Evl.ea_nil (by decide)) fun q H3 hq e3 => rv_eqI (ms := []) (Evl.ex_l e3 hA) (SqL.of hq))) (fun hb H1 t1 => q H1 t1) (fun hb H1 t1 => ?_)
    have hx : xs ≠ [] := of_decide_eq_false hb
    have lp : 0 < xs.length := List.length_pos_iff.mpr hx
    have hp1 := t1 _ _ hp
    -- a third ladder
    refine ⟨_, rfl, p, _, dx, fs, _, rfl, hp1, T.cl_Ladder, T.n_Ladder_width, hwidth, _, rfl, p, _, dx, fs, _, rfl, hp1, T.cl_Ladder, T.n_Ladder_high, hhigh, fun y dy ny ndy ne => ⟨H1, y, dy, wd, (h : Int), rfl, rfl, ny, ndy, ne, fun z => absurd z (by have := ok.w2; have := ok.w9; have := ok.h1; have := ok.h12; omega), fun l el _ _ _ _ H2 F2 hM s2' out => ⟨rfl, ?_⟩⟩⟩
    obtain rfl : l = h := by omega
    have u2 : Same H H2 := Same.trans t1 s2'
    have out2 : ∀ b, F2 b → H b = none := fun b f => Same.free t1 (out b f)
    obtain ⟨dy2, fy2, hy2, _, _, _, _, hmy⟩ := R.ins hM
    have lv : (xs.map V.int).length = xs.length := List.length_map ..
    have c1 := Int.emod_nonneg s0 (show (xs.length : Int) ≠ 0 by omega)
    have c2 := Int.emod_lt_of_pos s0 (show (0 : Int) < (xs.length : Int) by omega)
    obtain ⟨j, ej, hj⟩ : ∃ j : Nat, s0 % (xs.length : Int) = (j : Int) ∧ j < xs.length := ⟨(s0 % (xs.length : Int)).toNat, by omega, by omega⟩
    have gj : atI (xs.map V.int) (s0 % ((xs.map V.int).length : Int)) = some (.int (xs.getD j 0)) := by
      rw [lv, ej]
      exact atI_nat (map_at hj)
    have mj := mem_at hj
    have n0 := ok.lo _ mj
    have n1 := ok.hi _ mj
    dsimp only [gName]
    refine ⟨_, rfl, y, dy2, fy2, rfl, hy2, hmy _ (by decide +kernel), _, rfl, _, rfl, s, _, 0, _, rfl, rfl, u2.seq hS, atI_nat (j := 0) rfl, _, rfl, a, _, rfl, .inl (u2.seq hA), _, _, rfl, rfl, (by show (0 : Int) < ((xs.map V.int).length : Int); omega), a, _, _, _, rfl, rfl, u2.seq hA, gj, y, wd, l, [], F2, _, _, rfl, view_out hM, (by decide), fun z => absurd z (by omega), (fun z => nomatch z), fun _ _ _ H3 G3 F3 r3 us3 v3 s3 _ _ _ => ?_⟩
    have f3 := (frame_view v3 s3).fresh u2 out2
    have l3 := v3.lad
    have m3 : xs.getD j 0 ∈ insR (xs.getD j 0) [] := mem_insR.mpr (.inl rfl)
    have k3 : (insR (xs.getD j 0) []).length ≤ 1 := Nat.le_refl 1
    generalize insR (xs.getD j 0) [] = ys at l3 m3 k3
    generalize xs.getD j 0 = x0 at m3 mj
    obtain ⟨f3a, f3b⟩ := f3
    clear v3 s3 hM hy2 hmy
    -- more numbers
    have hp3 := f3a _ _ hp
    refine ⟨_, rfl, p, _, dx, fs, _, rfl, hp3, T.cl_Ladder, T.n_Ladder_limit, hlimit, _, _, rfl, rfl, ⟨by decide, by decide⟩, _, rfl, p, _, dx, fs, _, rfl, hp3, T.cl_Ladder, T.n_Ladder_limit, hlimit, _, _, rfl, rfl, _, rfl, p, _, dx, fs, _, rfl, hp3, T.cl_Ladder, T.n_Ladder_limit, hlimit, _, _, rfl, rfl, (by show 6 ≤ sizeLine; decide), fun c nc => ⟨c, rfl, ⟨_, SqL.of upd_same⟩, ?_⟩⟩
    have ec : (upd H3 c (.lst [.int 0, .int 1, .int 2, .int (wd ^ l / 2), .int (wd ^ l - 2), .int (wd ^ l - 1)])) c = some (.lst ([0, 1, 2, wd ^ l / 2, wd ^ l - 2, wd ^ l - 1].map V.int)) := upd_same
    have sc := same_upd (o := .lst [.int 0, .int 1, .int 2, .int (wd ^ l / 2), .int (wd ^ l - 2), .int (wd ^ l - 1)]) nc
    have lc := R.same l3 sc
    have cF : ¬ F3 c := (PR.bagOf l3).fresh nc
    have hall : ∀ n ∈ [0, 1, 2, wd ^ l / 2, wd ^ l - 2, wd ^ l - 1], 0 ≤ n := fun n hn => by
      simp only [List.mem_cons, List.not_mem_nil, or_false] at hn
      rcases hn with rfl | rfl | rfl | rfl | rfl | rfl <;> omega
    have l6 : [0, 1, 2, wd ^ l / 2, wd ^ l - 2, wd ^ l - 1].length = 6 := rfl
    have f4a := f3a.trans sc
    revert ec lc f4a hall l6
    generalize upd H3 c (.lst [.int 0, .int 1, .int 2, .int (wd ^ l / 2), .int (wd ^ l - 2), .int (wd ^ l - 1)]) = H4
    generalize hns : [0, 1, 2, wd ^ l / 2, wd ^ l - 2, wd ^ l - 1] = ns
    intro ec lc hall l6 f4a
    have lns : (List.map V.int ns).length = 6 := by rw [List.length_map, l6]
    refine for_list (K := K) (a := c) (xs := ns.map V.int) (fun i σ H' => ∃ F' zs, R.Lad H' y wd l zs F' ∧ x0 ∈ zs ∧ zs.length ≤ 1 + i ∧ Same H H' ∧ (∀ b, F' b → H b = none) ∧ H' c = some (.lst (ns.map V.int)) ∧ ¬ F' c ∧ ∃ y4, σ = [nR p, nR a, nR s, nR y, y4, none, none])
      ⟨F3, ys, lc, m3, k3, f4a, f3b, ec, cF, none, rfl⟩ (fun i σ H' _ hh => ?_) ?_ ?_
    · obtain ⟨F', zs, _, _, _, _, _, hc, _⟩ := hh
      exact SqL.of hc
    · rintro i x σ H' hi ⟨F', zs, hl, mz, lz, sH, fr, hc, nF, y4, rfl⟩
      obtain ⟨il, rfl, mx⟩ := int_at hi
      have n0 := hall _ mx
      have i6 : i < 6 := by omega
      generalize ns.getD i 0 = n at n0
      obtain ⟨dz, fz, hz, _, _, hzl, _, hmz⟩ := R.ins hl
      dsimp only [gName]
      refine Evl.s_when (b := decide (n < wd ^ l) && (!decide (n ∈ xs) && !decide (n ∈ zs))) (Evl.et_and (Evl.et_test (Evl.ev_op (Evl.ev_var rfl) (ev_fld (Evl.ev_var rfl) (sH _ _ hp) T.cl_Ladder T.n_Ladder_limit hlimit) Evl.rv_I0)) fun c1 => Evl.et_and (Evl.et_test (Evl.ev_op (Evl.ev_var rfl) (Evl.ev_var rfl) (rv_niI (sH.seq hA)))) fun _ => Evl.et_not (Evl.et_B (fun H5 e5 Q5 q5 => ?_))) (fun hb H5 t5 => ?_) (fun hb H5 t5 => ?_)
      · exact ⟨_, rfl, y, dz, fz, rfl, e5 _ _ hz, hmz _ (by decide +kernel), _, rfl, y, wd, l, zs, F', n, rfl, R.same hl e5, by omega, fun z => absurd z (by have := of_decide_eq_true c1; omega), fun _ _ H6 e6 => q5 H6 e6⟩
      · rw [Bool.and_eq_true, Bool.and_eq_true, decide_eq_true_iff, Bool.not_eq_true', Bool.not_eq_true', decide_eq_false_iff_not, decide_eq_false_iff_not] at hb
        have hl5 := R.same hl t5
        refine ⟨_, rfl, y, dz, fz, rfl, t5 _ _ hz, hmz _ (by decide +kernel), _, rfl, y, wd, l, zs, F', _, n, rfl, view_out hl5, by omega, fun z => absurd z (by omega), fun z => absurd z hb.2.2, fun _ _ _ H6 G6 F6 r6 us6 v6 s6 _ _ _ => ?_⟩
        have fv := frame_view v6 s6
        have ff := fv.fresh (sH.trans t5) fr
        have fc := fv c _ nF (t5 _ _ hc)
        exact ⟨F6, _, v6.lad, mem_insR.mpr (by by_cases e : x0 = n; exact .inl e; exact .inr ⟨mz, e⟩), by rw [insR_len hb.2.2]; omega, ff.1, ff.2, fc.1, fc.2, _, rfl⟩
      · exact ⟨F', zs, R.same hl t5, mz, by omega, sH.trans t5, fr, t5 _ _ hc, nF, _, rfl⟩
    rintro σ H5 ⟨F5, zs, hz, mz, lz, s5, fr, _, _, y4, rfl⟩
    have lz7 : zs.length ≤ 7 := by omega
    -- what they tell, ahead of it and behind it
    have hL5 := R.same hL s5
    refine ⟨_, rfl, _, rfl, p, s, wd, l, xs, F, F, s0, s1, s2, rfl, hL5, fun _ h => h, PR.bagOf hL5, s5.seq hS, a0, a1, b0, b1, by omega, fun H6 r6 s6 d6 => ?_⟩
    dsimp only [gName]
    have hz6 := R.same hz s6
    refine ⟨_, rfl, _, rfl, y, s, wd, l, zs, F5, F5, s0, s1, s2, rfl, hz6, fun _ h => h, PR.bagOf hz6, (s5.trans s6).seq hS, a0, a1, b0, b1, by omega, fun H7 r7 s7 d7 => ?_⟩
    dsimp only [gName]
    have u7 := (s5.trans s6).trans s7
    have apart : ∀ b, F b → ¬ F5 b := fun b f f5 => by
      obtain ⟨o, e⟩ := R.there hL b f
      rw [fr b f5] at e
      cases e
    refine ⟨_, rfl, _, rfl, p, y, wd, wd, l, l, xs, zs, F, F5, rfl, R.same hL u7, R.same hz6 s7, by omega, fun z => absurd z (by omega), fun _ _ _ H8 s8 => ⟨rfl, _, rfl, iteNS rfl ?_⟩, fun d => absurd mj (d _ mz), fun _ _ d => absurd mj (d _ mz)⟩
    have u8 := u7.trans s8
    refine ⟨_, rfl, _, rfl, y, p, wd, wd, l, l, zs, xs, F5, F, rfl, R.same (R.same hz6 s7) s8, R.same hL u8, by omega, fun z => absurd z (by omega), fun _ _ _ H9 s9 => ⟨rfl, _, rfl, iteNS rfl ?_⟩, fun d => absurd mz (d _ mj), fun _ _ d => absurd mz (d _ mj)⟩
    have u9 := u8.trans s9
    have hz9 := R.same (R.same (R.same hz6 s7) s8) s9
    have hL9 := R.same hL u9
    refine ⟨_, rfl, _, rfl, p, s, wd, l, xs, F, F, s0, s1, s2, rfl, hL9, fun _ h => h, PR.bagOf hL9, u9.seq hS, a0, a1, b0, b1, by omega, fun H10 r10 s10 d10 => ⟨_, rfl, ?_⟩⟩
    have g7 := (s7.trans s8).trans s9
    refine told_eq d10 (d6.same (Frame.refl F (g7.trans s10)).own) ⟨true, rfl, ?_⟩
    have hz10 := R.same hz9 s10
    refine ⟨_, rfl, _, rfl, y, s, wd, l, zs, F5, F5, s0, s1, s2, rfl, hz10, fun _ h => h, PR.bagOf hz10, (u9.trans s10).seq hS, a0, a1, b0, b1, by omega, fun H11 r11 s11 d11 => ⟨_, rfl, ?_⟩⟩
    exact told_eq d11 (d7.same (Frame.refl F5 (((s8.trans s9).trans s10).trans s11)).own) (q H11 ((u9.trans s10).trans s11))
theorem ok_l_woven (T : Txt K mg) (R : Rep K T.c_Ladder) (PR : Prog P w K mg base T R) : FnOk P w K mg base CX0 23 T.f_l_woven T.fd_l_woven ["_law_row", "_law_whole", "_law_size", "_law_spot"] (sp_l_woven T R) := by
  have G_l_made : FnOk P w K mg base CX0 22 T.f_l_made T.fd_l_made ["_law_width", "_law_high", "_law_row"] (sp_l_made T R) := ok_l_made T R PR
  have G_l_told : FnOk P w K mg base CX0 21 T.f_l_told T.fd_l_told ["_law_ladder", "_law_spot"] (sp_l_told T R) := ok_l_told T R PR
  have G_poured := PR.poured
  refine T.F_l_woven.ok sc_l_woven (fun vs H Q E h => ?_) (fun cdv A outer s H vs Q E hr h => ?_)
  · obtain ⟨a, b, z, s, wd, h, xs, s0, s1, s2, rfl, _⟩ := h
    rfl
  · obtain ⟨a, b, z, s, wd, h, xs, s0, s1, s2, rfl, hA, hB, hZ, hS, ok, a0, a1, b0, b1, hlen, q⟩ := h
    refine ⟨_, (pss_cons (ps_set (i := 4) sc_l_woven.nd rfl (.inl rfl) (pe_lst (pa_cons (pe_sliceS (by decide) (pv 0) po_none po_none pe_int) (pa_cons (pe_sliceS (by decide) (pv 0) (po_some pe_int) po_none pe_int) pa_nil))))
      (Evl.pss_cut (ps_if (pt_cmpR op_eq (pe_op op_mod (pe_ix ix_list (pv 3) pe_int (fun _ _ => rfl)) pe_int) pe_int (nomark _)) (pss_one (ps_set (i := 4) sc_l_woven.nd rfl (.inl rfl) (pe_lst (pa_cons (pe_sliceS (by decide) (pv 0) (po_some pe_int) po_none pe_int) (pa_cons (pe_sliceS (by decide) (pv 0) po_none po_none pe_int) pa_nil))))) pss_nil)
      (Evl.pss_cut (ps_if (pt_cmpR op_eq (pe_op op_mod (pe_ix ix_list (pv 3) pe_int (fun _ _ => rfl)) pe_int) pe_int (nomark _)) (pss_one (ps_set (i := 4) sc_l_woven.nd rfl (.inl rfl) (pe_lst (pa_cons (pe_slice sl_list (pv 0) (po_some (pe_op op_fdivW (pe_callB call_len_seq (by rfl) T.b_len PySem.boot_len (pa_cons (pv 0) pa_nil)) pe_int)) po_none) (pa_cons (pe_slice sl_list (pv 0) po_none (po_some (pe_op op_fdivW (pe_callB call_len_seq (by rfl) T.b_len PySem.boot_len (pa_cons (pv 0) pa_nil)) pe_int))) pa_nil))))) pss_nil)
      (pss_cons (ps_set (i := 5) sc_l_woven.nd rfl (.inl rfl) (pe_call G_l_made hr (by rfl) T.g_l_made T.F_l_made.kp T.bd_l_made .nil pass0 (pa_cons (pe_ix ix_list (pv 2) pe_int (fun _ _ => rfl)) (pa_cons (pe_ix ix_list (pv 2) pe_int (fun _ _ => rfl)) (pa_cons (pe_ix ix_list (pv 4) pe_int (fun _ _ => rfl)) pa_nil)))))
      (pss_cons (ps_set (i := 6) sc_l_woven.nd rfl (.inl rfl) (pe_call G_l_made hr (by rfl) T.g_l_made T.F_l_made.kp T.bd_l_made .nil pass0 (pa_cons (pe_ix ix_list (pv 2) pe_int (fun _ _ => rfl)) (pa_cons (pe_ix ix_list (pv 2) pe_int (fun _ _ => rfl)) (pa_cons (pe_ix ix_list (pv 4) pe_int (fun _ _ => rfl)) pa_nil)))))
      (pss_cons (ps_set (i := 7) sc_l_woven.nd rfl (.inl rfl) (pe_call G_l_told (hr.mono (by decide)) (by rfl) T.g_l_told T.F_l_told.kp T.bd_l_told .nil pass0 (pa_cons (pv 6) (pa_cons (pv 3) pa_nil))))
      (pss_one (ps_ret (pe_and (pe_cmpR op_isN (pe_call G_poured (hr.mono (by decide)) (by rfl) T.g_poured T.F_poured.kp T.bd_poured .nil passL (pa_cons (pv 5) (pa_cons (pv 6) pa_nil))) pe_non (nomark _)) (pe_and (pe_cmpR (op_eqD hr.units) (pe_call G_l_told (hr.mono (by decide)) (by rfl) T.g_l_told T.F_l_told.kp T.bd_l_told .nil pass0 (pa_cons (pv 5) (pa_cons (pv 3) pa_nil))) (pv 1) (nomark _)) (pe_one (pe_cmpR (op_eqD hr.units) (pe_call G_l_told (hr.mono (by decide)) (by rfl) T.g_l_told T.F_l_told.kp T.bd_l_told .nil pass0 (pa_cons (pv 6) (pa_cons (pv 3) pa_nil))) (pv 7) (nomark _))))))))))))), ?_⟩
    have pl := pow_ge2 ok.w2 ok.h1
    have lv : (xs.map V.int).length = xs.length := List.length_map ..
    have st0 := stepI_sub xs none none (c := 2) (by decide)
    have st1 := stepI_sub xs (some 1) none (c := 2) (by decide)
    have lt0 := st0.length_le
    have lt1 := st1.length_le
    have wp := weave_perm xs
    have sl0 : (stepV (xs.map V.int) none none 2).length ≤ sizeLine := by
      rw [stepV_ints, List.length_map]
      exact Nat.le_of_lt (small1000 (by omega))
    have sl1 : (stepV (xs.map V.int) (some 1) none 2).length ≤ sizeLine := by
      rw [stepV_ints, List.length_map]
      exact Nat.le_of_lt (small1000 (by omega))
    -- two rows
    have start : ∀ (ys zs : List Int) (H0 H1 : Hp) (u v r : Addr), Same H H0 → H0 u = none → (upd H0 u (.lst (ys.map V.int))) v = none → (upd (upd H0 u (.lst (ys.map V.int))) v (.lst (zs.map V.int))) r = none → H1 = upd (upd (upd H0 u (.lst (ys.map V.int))) v (.lst (zs.map V.int))) r (.lst [.ref u, .ref v]) →
        Same H H1 ∧ H1 u = some (.lst (ys.map V.int)) ∧ H1 v = some (.lst (zs.map V.int)) ∧ H1 r = some (.lst [.ref u, .ref v]) := fun ys zs H0 H1 u v r s0 nu nv nr e => by
      subst e
      have t1 := same_upd (o := .lst (ys.map V.int)) nu
      have t2 := same_upd (o := .lst (zs.map V.int)) nv
      have t3 := same_upd (o := .lst [.ref u, .ref v]) nr
      exact ⟨((s0.trans t1).trans t2).trans t3, t3 _ _ (t2 _ _ upd_same), t3 _ _ upd_same, upd_same⟩
    refine ⟨_, rfl, a, _, rfl, hA, sl0, fun u nu => ?_⟩
    rw [stepV_ints]
    refine ⟨_, rfl, 1, rfl, a, _, rfl, (same_upd nu).seq hA, sl1, fun v nv => ?_⟩
    rw [stepV_ints]
    refine ⟨(by show 2 ≤ sizeLine; decide), fun r nr => ?_⟩
    obtain ⟨S1, eu, ev, er⟩ := start _ _ H _ u v r (Same.refl _) nu nv nr rfl
    dsimp only [gName]
    revert S1 eu ev er
    generalize upd (upd (upd H u (.lst ((stepI xs none none 2).map V.int))) v (.lst ((stepI xs (some 1) none 2).map V.int))) r (.lst [.ref u, .ref v]) = H1
    intro S1 eu ev er
    refine ⟨fun σ H' => Same H H' ∧ ∃ (u v r : Addr) (ys zs : List Int), H' u = some (.lst (ys.map V.int)) ∧ H' v = some (.lst (zs.map V.int)) ∧ H' r = some (.lst [.ref u, .ref v]) ∧ ys.Sublist xs ∧ zs.Sublist xs ∧ (ys ++ zs).Perm xs ∧ σ = [nR a, nR b, nR z, nR s, nR r, none, none, none], ?_, ?_⟩
    · refine ⟨_, rfl, s, _, 0, _, rfl, rfl, S1.seq hS, atI_nat (j := 0) rfl, _, _, rfl, rfl, (by show (0 : Int) < 3; decide), rfl, _, rfl, ite2 (fun _ => ?_) (fun _ => ⟨S1, u, v, r, _, _, eu, ev, er, st0, st1, wp, rfl⟩)⟩
      refine ⟨_, rfl, 1, rfl, a, _, rfl, S1.seq hA, sl1, fun u nu => ?_⟩
      rw [stepV_ints]
      refine ⟨_, rfl, a, _, rfl, (S1.trans (same_upd nu)).seq hA, sl0, fun v nv => ?_⟩
      rw [stepV_ints]
      refine ⟨(by show 2 ≤ sizeLine; decide), fun r nr => ?_⟩
      obtain ⟨S2, eu, ev, er⟩ := start _ _ H1 _ u v r S1 nu nv nr rfl
      exact ⟨S2, u, v, r, _, _, eu, ev, er, st1, st0, List.perm_append_comm.trans wp, rfl⟩
    rintro σ H2 ⟨S2, u, v, r, ys, zs, eu, ev, er, sy, sz, pm, rfl⟩
    clear S1
    refine ⟨fun σ H' => Same H H' ∧ ∃ (u v r : Addr) (ys zs : List Int), H' u = some (.lst (ys.map V.int)) ∧ H' v = some (.lst (zs.map V.int)) ∧ H' r = some (.lst [.ref u, .ref v]) ∧ ys.Sublist xs ∧ zs.Sublist xs ∧ (ys ++ zs).Perm xs ∧ σ = [nR a, nR b, nR z, nR s, nR r, none, none, none], ?_, ?_⟩
    · refine ⟨_, rfl, s, _, 0, _, rfl, rfl, S2.seq hS, atI_nat (j := 0) rfl, _, _, rfl, rfl, (by show (0 : Int) < 3; decide), rfl, _, rfl, ite2 (fun _ => ?_) (fun _ => ⟨S2, u, v, r, ys, zs, eu, ev, er, sy, sz, pm, rfl⟩)⟩
      obtain ⟨k, ek⟩ : ∃ k : Nat, ((xs.map V.int).length : Int) / 2 = (k : Int) := ⟨(((xs.map V.int).length : Int) / 2).toNat, by omega⟩
      refine ⟨_, rfl, _, rfl, a, _, rfl, .inl (S2.seq hA), _, _, rfl, rfl, ⟨by decide, by decide⟩, _, rfl, a, _, rfl, S2.seq hA, fun u nu => ?_⟩
      rw [ek, cut_drop]
      refine ⟨_, rfl, _, rfl, a, _, rfl, .inl ((S2.trans (same_upd nu)).seq hA), _, _, rfl, rfl, ⟨by decide, by decide⟩, _, rfl, a, _, rfl, (S2.trans (same_upd nu)).seq hA, fun v nv => ?_⟩
      rw [ek, cut_take]
      refine ⟨(by show 2 ≤ sizeLine; decide), fun r nr => ?_⟩
      obtain ⟨S3, eu, ev, er⟩ := start _ _ H2 _ u v r S2 nu nv nr rfl
      refine ⟨S3, u, v, r, _, _, eu, ev, er, List.drop_sublist _ _, List.take_sublist _ _, ?_, rfl⟩
      have e := List.perm_append_comm (l₁ := xs.drop k) (l₂ := xs.take k)
      rw [List.take_append_drop] at e
      exact e
    rintro σ H3 ⟨S3, u, v, r, ys, zs, eu, ev, er, sy, sz, pm, rfl⟩
    clear S2
    have ly := sy.length_le
    have lz := sz.length_le
    obtain ⟨pb, dis⟩ := pour_back ok.rise sy sz pm
    -- two ladders
    refine ⟨_, rfl, z, _, 0, _, rfl, rfl, S3.seq hZ, atI_nat (j := 0) rfl, _, rfl, z, _, 1, _, rfl, rfl, S3.seq hZ, atI_nat (j := 1) rfl, _, rfl, r, _, 0, _, rfl, rfl, SqL.of er, atI_nat (j := 0) rfl, u, wd, h, ys, rfl, SqL.of eu, ok.sub sy, by omega, fun H4 p1 F1 l1 s4 out1 => ?_⟩
    have S4 := S3.trans s4
    dsimp only [gName]
    refine ⟨_, rfl, z, _, 0, _, rfl, rfl, S4.seq hZ, atI_nat (j := 0) rfl, _, rfl, z, _, 1, _, rfl, rfl, S4.seq hZ, atI_nat (j := 1) rfl, _, rfl, r, _, 1, _, rfl, rfl, SqL.of (s4 _ _ er), atI_nat (j := 1) rfl, v, wd, h, zs, rfl, SqL.of (s4 _ _ ev), ok.sub sz, by omega, fun H5 p2 F2 l2 s5 out2 => ?_⟩
    have S5 := S4.trans s5
    have l1' := R.same l1 s5
    have apart : ∀ b, F1 b → ¬ F2 b := fun b f1 f2 => by
      obtain ⟨o, e⟩ := R.there l1 b f1
      rw [out2 b f2] at e
      cases e
    have out1' : ∀ b, F1 b → H b = none := fun b f => Same.free S3 (out1 b f)
    have bg := (PR.bagOf l1').uni (PR.bagOf l2)
    dsimp only [gName]
    refine ⟨_, rfl, _, rfl, p2, s, wd, h, zs, F2, uni F1 F2, s0, s1, s2, rfl, l2, fun _ h => .inr h, bg, S5.seq hS, a0, a1, b0, b1, by omega, fun H6 r6 s6 d6 => ?_⟩
    have S6 := S5.trans s6
    have l1'' := R.same l1' s6
    have l2' := R.same l2 s6
    dsimp only [gName]
    refine ⟨_, rfl, _, rfl, p1, p2, wd, wd, h, h, ys, zs, F1, F2, rfl, l1'', l2', by omega, fun z => absurd z (by omega), fun _ _ ⟨x, m1, m2⟩ => absurd m2 (dis x m1), fun _ => .inr apart, fun _ _ _ H7 F7 l7 fr7 => ⟨rfl, true, ?_, ?_⟩⟩
    · rw [decide_eq_true rfl]
    have fr := fr7.fresh S6 out1'
    rw [pb] at l7
    have l2'' := fr7.lad l2' apart
    have S7 := fr.1
    refine ⟨_, rfl, _, rfl, p1, s, wd, h, xs, F7, F7, s0, s1, s2, rfl, l7, fun _ h => h, PR.bagOf l7, S7.seq hS, a0, a1, b0, b1, by omega, fun H8 r8 s8 d8 => ⟨_, rfl, ?_⟩⟩
    have hB8 := (hB.same S7).same s8
    refine eqD_same (d8.same own_sub).dp hB8.dp (shaped_told wd h xs s0 s1 s2) ⟨true, rfl, ?_⟩
    have l28 := R.same l2''.1 s8
    refine ⟨_, rfl, _, rfl, p2, s, wd, h, zs, F2, F2, s0, s1, s2, rfl, l28, fun _ h => h, PR.bagOf l28, (S7.trans s8).seq hS, a0, a1, b0, b1, by omega, fun H9 r9 s9 d9 => ⟨_, rfl, ?_⟩⟩
    have d6' := (d6.same (fr7.uni (X := F2)).own).same (Frame.refl (uni F7 F2) (s8.trans s9)).own
    exact told_eq d9 d6' (q H9 ((S7.trans s8).trans s9))
theorem ok_l_mated (T : Txt K mg) (R : Rep K T.c_Ladder) (PR : Prog P w K mg base T R) : FnOk P w K mg base CX0 23 T.f_l_mated T.fd_l_mated ["_law_other", "_law_own"] (sp_l_mated T R) := by
  have G_l_refused : FnOk P w K mg base CX0 21 T.f_l_refused T.fd_l_refused ["_law_ladder", "_law_other"] (sp_l_refused T R) := ok_l_refused T R PR
  have G_ladder_row := PR.row
  have G_l_made : FnOk P w K mg base CX0 22 T.f_l_made T.fd_l_made ["_law_width", "_law_high", "_law_row"] (sp_l_made T R) := ok_l_made T R PR
  refine T.F_l_mated.ok sc_l_mated (fun vs H Q E h => ?_) (fun cdv A outer s H vs Q E hr h => ?_)
  · obtain ⟨p, a, wd, h, xs, F, rfl, _⟩ := h
    rfl
  · obtain ⟨p, a, wd, h, xs, F, rfl, hL, hA, hlen, q⟩ := h
    refine ⟨_, (pss_cons (ps_set (i := 2) sc_l_mated.nd rfl (.inl rfl) (pe_slice sl_list (pe_lc (own := [("_law_number_here", 3)]) (g := gName 3) (by rfl) sc_l_mated.nd (pi_tup (pe_tup (pa_cons pe_int (pa_cons pe_int pa_nil)))) (blkOk_by (own := [("_law_number_here", 3)]) (N := ["_law_other", "_law_own", "_law_more", "_law_number_here"]) (sc := defScope s_l_mated) (by decide +kernel)) (fun _ _ _ _ _ => (pg_name (i := 3) sc_l_mated.nd rfl (Or.inl rfl))) (fun _ _ _ _ _ => (pts_one (pt_cmpR (show OpR _ _ (rIn K true) from op_notIn_seq) (pv 3) (pv 1) (by rfl)))) (fun _ _ _ _ _ => (pv 3))) po_none (po_some pe_int)))
      (pss_cons (ps_if (pt_cmpR op_ne (pe_call G_l_refused (hr.mono (by decide)) (by rfl) T.g_l_refused T.F_l_refused.kp T.bd_l_refused .nil pass0 (pa_cons (pv 0) (pa_cons (pe_call G_l_made hr (by rfl) T.g_l_made T.F_l_made.kp T.bd_l_made .nil pass0 (pa_cons (pe_fld (pv 0) rfl) (pa_cons (pe_fld (pv 0) rfl) (pa_cons (pv 2) pa_nil)))) pa_nil))) pe_int (nomark _)) (pss_one (ps_ret pe_bl)) pss_nil)
      (pss_one (ps_ret (pe_cmpR (op_eqD hr.units) (pe_meth0 (pv 0) T.cl_Ladder T.m_ladder_row G_ladder_row (hr.mono (by decide)) T.bd_ladder_row .nil pass0) (pe_callB cr_sortedI (by rfl) T.b_sorted (by decide +kernel) (pa_cons (pe_op op_cat (pv 1) (pv 2)) pa_nil)) (nomark _)))))), ?_⟩
    obtain ⟨dx, fs, hp, hwidth, hhigh, hlimit, hmany, hm⟩ := R.ins hL
    have ok := R.ok hL
    have pl := pow_ge2 ok.w2 ok.h1
    have hA' : SqL K H a (xs.map V.int) := SqL.of (own_sub _ _ hA)
    -- nought or one
    refine ⟨(by show 2 ≤ sizeLine; decide), fun t nt => ⟨t, rfl, ⟨_, SqT.of upd_same⟩, fun D nD => ?_⟩⟩
    have tT : (upd H t (.tup ([0, 1].map V.int))) t = some (.tup ([0, 1].map V.int)) := upd_same
    have tS := same_upd (o := .tup ([0, 1].map V.int)) nt
    have hA1 := tS.seq hA'
    refine lc_tup (K := K) (a := t) (xs := [0, 1].map V.int) (fun i H' => Same (upd H t (.tup ([0, 1].map V.int))) H' ∧ H' D = some (.lst ((([0, 1].take i).filter fun x => !decide (x ∈ xs)).map V.int))) ⟨same_upd nD, upd_same⟩ (fun i H' _ hh => SqT.of (hh.1 _ _ tT)) (fun i x H' hi hh => ?_) (fun H1 hh => ?_)
    · obtain ⟨il, rfl, _⟩ := int_at hi
      obtain ⟨sH, hD⟩ := hh
      have ex := take_next (fun x => !decide (x ∈ xs)) il
      generalize ([0, 1] : List Int).getD i 0 = n at ex
      have il2 : i < 2 := il
      refine ⟨rfl, ?_⟩
      refine evT_use (b := !decide (n ∈ xs)) (Evl.et_test (Evl.ev_op (Evl.ev_var rfl) (Evl.ev_var rfl) (rv_niI (sH.seq hA1)))) fun H2 s2 => ?_
      by_cases c : (!decide (n ∈ xs)) = true
      · rw [if_pos c]
        rw [if_pos c] at ex
        refine ⟨_, rfl, _, s2 _ _ hD, ?_, same_mut (sH.trans s2) nD, ?_⟩
        · rw [List.length_map]
          have := List.length_filter_le (fun x => !decide (x ∈ xs)) ([0, 1].take i)
          have := List.length_take_le i [(0 : Int), 1]
          exact small1000 (by omega)
        · rw [upd_same, ex, List.map_append]
          rfl
      · rw [if_neg c]
        rw [if_neg c, List.append_nil] at ex
        exact ⟨sH.trans s2, by rw [ex]; exact s2 _ _ hD⟩
    obtain ⟨sH, hD⟩ := hh
    have hD' : H1 D = some (.lst (([0, 1].filter fun x => !decide (x ∈ xs)).map V.int)) := hD
    have S1 := tS.trans sH
    refine ⟨1, rfl, D, _, rfl, SqL.of hD', fun c nc => ?_⟩
    obtain ⟨ms, em, lm, sm⟩ : ∃ ms : List Int, cutV (([0, 1].filter fun x => !decide (x ∈ xs)).map V.int) none (some 1) = ms.map V.int ∧ ms.length ≤ 2 ∧ ms.Sublist ([0, 1].filter fun x => !decide (x ∈ xs)) := ⟨_, cut_take _ 1, by
      have h1 := List.length_take_le 1 ([0, 1].filter fun x => !decide (x ∈ xs))
      omega, List.take_sublist _ _⟩
    rw [em]
    have hc : (upd H1 c (.lst (ms.map V.int))) c = some (.lst (ms.map V.int)) := upd_same
    have S2 := S1.trans (same_upd (o := .lst (ms.map V.int)) nc)
    have mm : ∀ x ∈ ms, 0 ≤ x ∧ x < wd ^ h ∧ x ∉ xs := fun x hx => by
      have q1 := List.mem_filter.mp (sm.subset hx)
      have q2 := q1.2
      rw [Bool.not_eq_true', decide_eq_false_iff_not] at q2
      have q3 := q1.1
      simp only [List.mem_cons, List.not_mem_nil, or_false] at q3
      rcases q3 with e | e <;> exact ⟨by omega, by omega, q2⟩
    have mr : ms.Pairwise (· < ·) := (List.Pairwise.filter _ (show ([0, 1] : List Int).Pairwise (· < ·) from by decide)).sublist sm
    have okm : RowOk wd h ms := ⟨ok.w2, ok.w9, ok.h1, ok.h12, mr, fun x hx => (mm x hx).1, fun x hx => (mm x hx).2.1⟩
    have cF : ¬ F c := fun f => by
      obtain ⟨o, e⟩ := R.there (R.same hL S1) c f
      rw [nc] at e
      cases e
    revert hc S2
    generalize upd H1 c (.lst (ms.map V.int)) = H2
    intro hc S2
    dsimp only [gName]
    have hp2 := S2 _ _ hp
    refine ⟨_, rfl, _, rfl, p, _, dx, fs, _, rfl, hp2, T.cl_Ladder, T.n_Ladder_width, hwidth, _, rfl, p, _, dx, fs, _, rfl, hp2, T.cl_Ladder, T.n_Ladder_high, hhigh, _, rfl, c, wd, h, ms, rfl, SqL.of hc, okm, by omega, fun H3 q3 F3 l3 s3 out3 => ?_⟩
    have S3 := S2.trans s3
    have hL3 := R.same hL S3
    have apart : ∀ b, F b → ¬ F3 b := fun b f1 f2 => by
      obtain ⟨o, e⟩ := R.there (R.same hL S2) b f1
      rw [out3 b f2] at e
      cases e
    refine ⟨p, q3, wd, wd, h, h, xs, ms, F, F3, rfl, hL3, l3, by omega, fun z => absurd z (by omega), fun _ _ ⟨x, m1, m2⟩ => absurd m2 (mm x m1).2.2, fun _ => .inr apart, fun _ _ _ H4 F4 l4 f4 => ⟨rfl, _, rfl, iteNS rfl ?_⟩⟩
    obtain ⟨dz, fz, hz, _, _, _, _, hmz⟩ := R.ins l4
    have dis : ∀ y ∈ ms, y ∉ xs := fun y hy => (mm y hy).2.2
    have pp := pourL_perm (rise_nodup mr) dis
    have pl4 := pourL_len (rise_nodup mr) dis
    refine ⟨_, rfl, p, dz, fz, rfl, hz, hmz _ (by decide +kernel), p, wd, h, _, F4, rfl, l4, by omega, fun H5 r5 s5 n5 e5 => ?_⟩
    have fr5 : Frame F F4 H H5 := ((Frame.refl F S3).trans f4).trans (Frame.refl F4 s5)
    have hA5 := own_sub _ _ (fr5.own _ _ hA)
    have hc5 := s5 _ _ (f4 c _ cF (s3 _ _ hc)).1
    refine ⟨_, rfl, _, rfl, a, c, _, _, rfl, rfl, hA5, hc5, ?_, fun d nd => ?_⟩
    · rw [List.length_map, List.length_map]
      exact Nat.le_of_lt (small1000 (by omega))
    · have e16 : xs.map V.int ++ ms.map V.int = (xs ++ ms).map V.int := (List.map_append ..).symm
      rw [e16]
      refine ⟨d, xs ++ ms, rfl, SqL.of upd_same, fun ys r7 pm7 rise7 n7 => ?_⟩
      have eys : ys = pourL ms xs := PySem.W.ksm_same (pm7.trans (List.perm_append_comm.trans pp.symm)) rise7 ((pourL_rise ok.rise).imp fun h => Int.le_of_lt h)
      subst eys
      have s6 := same_upd (o := .lst ((xs ++ ms).map V.int)) nd
      have s7 := same_upd (o := .lst ((pourL ms xs).map V.int)) n7
      exact eqD_ints (SqL.of (s7 _ _ (s6 _ _ e5))) (SqL.of upd_same) rfl (q _ F4 (fr5.trans (Frame.refl F4 (s6.trans s7))))
theorem ok_l_again (T : Txt K mg) (R : Rep K T.c_Ladder) (PR : Prog P w K mg base T R) : FnOk P w K mg base CX0 23 T.f_l_again T.fd_l_again ["_law_ladder", "_law_row", "_law_spot"] (sp_l_again T R) := by
  have G_l_made : FnOk P w K mg base CX0 22 T.f_l_made T.fd_l_made ["_law_width", "_law_high", "_law_row"] (sp_l_made T R) := ok_l_made T R PR
  have G_cut := PR.cut_
  have G_ladder_put := PR.put
  have G_l_ends : FnOk P w K mg base CX0 21 T.f_l_ends T.fd_l_ends ["_law_ladder", "_law_gone"] (sp_l_ends T R) := ok_l_ends T R PR
  have G_l_told : FnOk P w K mg base CX0 21 T.f_l_told T.fd_l_told ["_law_ladder", "_law_spot"] (sp_l_told T R) := ok_l_told T R PR
  refine T.F_l_again.ok sc_l_again (fun vs H Q E h => ?_) (fun cdv A outer s H vs Q E hr h => ?_)
  · obtain ⟨p, a, s, wd, h, xs, F, s0, s1, s2, rfl, _⟩ := h
    rfl
  · obtain ⟨p, a, s, wd, h, xs, F, s0, s1, s2, rfl, hL, hA, hS, a0, a1, b0, b1, hlen, q⟩ := h
    refine ⟨_, (pss_cons (ps_set (i := 3) sc_l_again.nd rfl (.inl rfl) (pe_call G_l_made hr (by rfl) T.g_l_made T.F_l_made.kp T.bd_l_made .nil pass0 (pa_cons (pe_fld (pv 0) rfl) (pa_cons (pe_fld (pv 0) rfl) (pa_cons (pv 1) pa_nil)))))
      (pss_cons (ps_if (PW.pt (pw_and (pt_cmpR op_notIn_seq (pe_ix ix_list (pv 2) pe_int (fun _ _ => rfl)) (pv 1) (by rfl)) (pw_and1 (pt_cmpR (op_neD hr.units) (pe_meth (pv 0) T.cl_Ladder T.m_ladder_put G_ladder_put (hr.mono (by decide)) T.bd_ladder_put .nil passL (pa_cons (pe_ix ix_list (pv 2) pe_int (fun _ _ => rfl)) pa_nil)) (pe_meth (pv 3) T.cl_Ladder T.m_ladder_put G_ladder_put (hr.mono (by decide)) T.bd_ladder_put .nil passL (pa_cons (pe_ix ix_list (pv 2) pe_int (fun _ _ => rfl)) pa_nil)) (nomark _))))) (pss_one (ps_ret pe_bl)) pss_nil)
      (pss_cons (ps_set (i := 1) sc_l_again.nd rfl (.inl rfl) (pe_callB cr_sortedI (by rfl) T.b_sorted (by decide +kernel) (pa_cons (pe_op op_cat (pe_lc (own := [("_law_number_here", 7)]) (g := gName 7) (by rfl) sc_l_again.nd (pi_list (pv 1)) (blkOk_by (own := [("_law_number_here", 7)]) (N := ["_law_ladder", "_law_row", "_law_spot", "_law_fresh", "_law_piece", "_law_low", "_law_high", "_law_number_here"]) (sc := defScope s_l_again) (by decide +kernel)) (fun _ _ _ _ _ => (pg_name (i := 7) sc_l_again.nd rfl (Or.inl rfl))) (fun _ _ _ _ _ => (pts_one (pt_cmpR op_ne (pv 7) (pe_ix (show IxR _ (rIxL K) from ix_list) (pv 2) pe_int (fun _ _ => rfl)) (nomark _)))) (fun _ _ _ _ _ => (pv 7))) (pe_lst (pa_cons (pe_ix ix_list (pv 2) pe_int (fun _ _ => rfl)) pa_nil))) pa_nil)))
      (pss_cons (ps_set (i := 4) sc_l_again.nd rfl (.inl rfl) (pe_call G_cut (hr.mono (by decide)) (by rfl) T.g_cut T.F_cut.kp T.bd_cut .nil passL (pa_cons (pv 0) (pa_cons (pe_ix ix_list (pv 2) pe_int (fun _ _ => rfl)) pa_nil))))
      (pss_cons (ps_set (i := 5) sc_l_again.nd rfl (.inl rfl) (pe_call G_l_made hr (by rfl) T.g_l_made T.F_l_made.kp T.bd_l_made .nil pass0 (pa_cons (pe_fld (pv 0) rfl) (pa_cons (pe_fld (pv 0) rfl) (pa_cons (pe_lc (own := [("_law_number_here", 7)]) (g := gName 7) (by rfl) sc_l_again.nd (pi_list (pv 1)) (blkOk_by (own := [("_law_number_here", 7)]) (N := ["_law_ladder", "_law_row", "_law_spot", "_law_fresh", "_law_piece", "_law_low", "_law_high", "_law_number_here"]) (sc := defScope s_l_again) (by decide +kernel)) (fun _ _ _ _ _ => (pg_name (i := 7) sc_l_again.nd rfl (Or.inl rfl))) (fun _ _ _ _ _ => (pts_one (pt_cmpR op_lt (pv 7) (pe_ix (show IxR _ (rIxL K) from ix_list) (pv 2) pe_int (fun _ _ => rfl)) (nomark _)))) (fun _ _ _ _ _ => (pv 7))) pa_nil)))))
      (pss_cons (ps_set (i := 6) sc_l_again.nd rfl (.inl rfl) (pe_call G_l_made hr (by rfl) T.g_l_made T.F_l_made.kp T.bd_l_made .nil pass0 (pa_cons (pe_fld (pv 0) rfl) (pa_cons (pe_fld (pv 0) rfl) (pa_cons (pe_lc (own := [("_law_number_here", 7)]) (g := gName 7) (by rfl) sc_l_again.nd (pi_list (pv 1)) (blkOk_by (own := [("_law_number_here", 7)]) (N := ["_law_ladder", "_law_row", "_law_spot", "_law_fresh", "_law_piece", "_law_low", "_law_high", "_law_number_here"]) (sc := defScope s_l_again) (by decide +kernel)) (fun _ _ _ _ _ => (pg_name (i := 7) sc_l_again.nd rfl (Or.inl rfl))) (fun _ _ _ _ _ => (pts_one (pt_cmpR op_ge (pv 7) (pe_ix (show IxR _ (rIxL K) from ix_list) (pv 2) pe_int (fun _ _ => rfl)) (nomark _)))) (fun _ _ _ _ _ => (pv 7))) pa_nil)))))
      (pss_cons (ps_if (PW.pt (pw_or (pt_not (pt_val (pe_call G_l_ends (hr.mono (by decide)) (by rfl) T.g_l_ends T.F_l_ends.kp T.bd_l_ends .nil pass0 (pa_cons (pv 0) (pa_cons (pe_ix ix_list (pv 2) pe_int (fun _ _ => rfl)) pa_nil))))) (pw_or1 (pt_not (pt_val (pe_call G_l_ends (hr.mono (by decide)) (by rfl) T.g_l_ends T.F_l_ends.kp T.bd_l_ends .nil pass0 (pa_cons (pv 4) (pa_cons (pe_op op_sub (pe_ix ix_list (pv 2) pe_int (fun _ _ => rfl)) pe_int) pa_nil)))))))) (pss_one (ps_ret pe_bl)) pss_nil)
      (pss_one (ps_ret (pe_and (pe_cmpR (op_eqD hr.units) (pe_call G_l_told (hr.mono (by decide)) (by rfl) T.g_l_told T.F_l_told.kp T.bd_l_told .nil pass0 (pa_cons (pv 0) (pa_cons (pv 2) pa_nil))) (pe_call G_l_told (hr.mono (by decide)) (by rfl) T.g_l_told T.F_l_told.kp T.bd_l_told .nil pass0 (pa_cons (pv 5) (pa_cons (pv 2) pa_nil))) (nomark _)) (pe_one (pe_cmpR (op_eqD hr.units) (pe_call G_l_told (hr.mono (by decide)) (by rfl) T.g_l_told T.F_l_told.kp T.bd_l_told .nil pass0 (pa_cons (pv 4) (pa_cons (pv 2) pa_nil))) (pe_call G_l_told (hr.mono (by decide)) (by rfl) T.g_l_told T.F_l_told.kp T.bd_l_told .nil pass0 (pa_cons (pv 6) (pa_cons (pv 2) pa_nil))) (nomark _))))))))))))), ?_⟩
    obtain ⟨dx, fs, hp, hwidth, hhigh, hlimit, hmany, hm⟩ := R.ins hL
    have ok := R.ok hL
    have pl := pow_ge2 ok.w2 ok.h1
    have lv : (xs.map V.int).length = xs.length := List.length_map ..
    have hAH : SqL K H a (xs.map V.int) := own_sub.seq hA
    refine ⟨_, rfl, p, _, dx, fs, _, rfl, hp, T.cl_Ladder, T.n_Ladder_width, hwidth, _, rfl, p, _, dx, fs, _, rfl, hp, T.cl_Ladder, T.n_Ladder_high, hhigh, _, rfl, a, wd, h, xs, rfl, hAH, ok, by omega, fun H1 f F1 lf t1 out1 => ?_⟩
    have hL1 := R.same hL t1
    have apart : ∀ b, F b → ¬ F1 b := fun b f1 f2 => by
      obtain ⟨o, e⟩ := R.there hL b f1
      rw [out1 b f2] at e
      cases e
    have fr1 : Frame F (uni F F1) H H1 := Frame.more t1 out1
    dsimp only [gName]
    show tSeq _ _ _ [nR p, nR a, nR s, nR f, none, none, none, none] _
    have hA1 : SqL K H1 a (xs.map V.int) := own_sub.seq (fr1.own.seq hA)
    have hS1 : SqL K H1 s ([s0, s1, s2].map V.int) := own_sub.seq (fr1.own.seq hS)
    apply both (I := fun H2 => ∃ F2 F3, R.Lad H2 p wd h (insR s2 xs) F2 ∧ Frame (uni F F1) (uni F2 F3) H1 H2)
    · intro cont
      refine ⟨_, rfl, s, _, 2, _, rfl, rfl, hS1, atI_nat (j := 2) rfl, _, rfl, a, _, rfl, .inl hA1, rfl, flat_ints _, _, rfl, ?_⟩
      show if (!inV (V.int s2) (xs.map V.int)) = true then _ else _
      rw [inV_ints]
      by_cases c : s2 ∈ xs
      · rw [decide_eq_true c]
        refine iteF (iteF ?_)
        rw [insR_same ok.rise c] at cont
        exact cont H1 ⟨F, F1, hL1, Frame.refl _ (Same.refl _)⟩
      · rw [decide_eq_false c]
        refine iteT ?_
        obtain ⟨dx1, fs1, hp1, _, _, _, _, hm1⟩ := R.ins hL1
        refine ⟨_, rfl, p, dx1, fs1, rfl, hp1, hm1 _ (by decide +kernel), _, rfl, s, _, 2, _, rfl, rfl, hS1, atI_nat (j := 2) rfl, p, wd, h, xs, F, _, s2, rfl, view_out hL1, by omega, fun z => absurd z (by omega), fun z => absurd z c, fun _ _ _ H2 G2 F2 r2 us2 v2 s2' n2 e2 d2 => ?_⟩
        have fr2 := frame_view v2 s2'
        have hS2 : SqL K H2 s ([s0, s1, s2].map V.int) := own_sub.seq (((fr1.trans fr2.uni).own).seq hS)
        have dd2 := deed_data (PR.bagOf (R.same lf (Same.refl _))) apart v2 s2' n2 e2 chs_flat d2
        have lf2 := fr2.lad lf apart
        obtain ⟨df, ff, hf, _, _, _, _, hmf⟩ := R.ins lf2.1
        refine ⟨_, rfl, f, df, ff, rfl, hf, hmf _ (by decide +kernel), _, rfl, s, _, 2, _, rfl, rfl, hS2, atI_nat (j := 2) rfl, f, wd, h, xs, F1, _, s2, rfl, view_out lf2.1, by omega, fun z => absurd z (by omega), fun z => absurd z c, fun _ _ _ H3 G3 F3 r3 us3 v3 s3 n3 e3 d3 => ?_⟩
        have fr3 := frame_view v3 s3
        have l3 := fr3.lad v2.lad fun b x y => lf2.2 b y x
        refine neD_same ((dd2.same fr3.own).same own_sub).dp (Dh.lst (v3.sub _ _ e3) (d3.same v3.sub)).dp (shaped_chPut wd h xs s2) ⟨false, rfl, iteF ?_⟩
        exact cont H3 ⟨F2, F3, l3.1, fr2.uni.trans fr3.uniR⟩
    · rintro H2 ⟨F2, F3, l2, fr2⟩
      have fr02 := fr1.trans fr2
      have hA2 : SqL K H2 a (xs.map V.int) := own_sub.seq (fr02.own.seq hA)
      have hS2 : SqL K H2 s ([s0, s1, s2].map V.int) := own_sub.seq (fr02.own.seq hS)
      have ok2 := R.ok l2
      dsimp only [tNext]
      have n2 : (insR s2 xs).length ≤ 61 := by
        by_cases c : s2 ∈ xs
        · rw [insR_same ok.rise c]
          omega
        · rw [insR_len c]
          omega
      have pr := insR_perm' (n := s2) ok.rise
      revert l2 ok2 n2 pr
      generalize insR s2 xs = ys
      intro l2 ok2 n2 pr
      -- the row, with it
      show tAsg _ _ _ _ _
      show tCB _ _ _ _ _
      show tCons _ _ _ _ _
      show tOp _ _ _ _ _ _
      show tLc _ _ _ _ _ _ _ _
      refine evL_use (xs := (xs.filter fun x => !decide (V.int x = V.int s2)).map V.int) (el_fil (fun x => !decide (V.int x = V.int s2)) (Evl.ev_var rfl) hA2 (by omega) (fun _ => rfl) (fun x _ H3 e3 => Evl.et_test (Evl.ev_op (Evl.ev_var rfl) (Evl.ev_op (Evl.ev_var rfl) Evl.ev_c (Evl.rv_ixL (Evl.ex_l e3 hS2) (atI_nat (j := 2) rfl))) (Evl.rv_ne rfl))) (fun x _ H3 e3 _ => Evl.ev_var rfl)) fun c H3 nc t3 hc => ?_
      refine ⟨_, rfl, s, _, 2, _, rfl, rfl, (Same.seq t3 hS2), atI_nat (j := 2) rfl, (by show 1 ≤ sizeLine; decide), fun g ng => ?_⟩
      have t4 := same_upd (o := .lst [.int s2]) ng
      refine ⟨c, g, _, _, rfl, rfl, t4 _ _ hc, upd_same, ?_, fun e ne => ?_⟩
      · rw [List.length_map]
        have := List.length_filter_le (fun x => !decide (V.int x = V.int s2)) xs
        exact Nat.le_of_lt (small1000 (by show _ + 1 ≤ 1000; omega))
      have t5 := same_upd (o := .lst ((xs.filter fun x => !decide (V.int x = V.int s2)).map V.int ++ [.int s2])) ne
      have e5 : (xs.filter fun x => !decide (V.int x = V.int s2)).map V.int ++ [V.int s2] = ((xs.filter fun x => !decide (V.int x = V.int s2)) ++ [s2]).map V.int := by
        rw [List.map_append]
        rfl
      refine ⟨e, (xs.filter fun x => !decide (V.int x = V.int s2)) ++ [s2], rfl, ?_, fun zs r6 pm6 rise6 n6 => ?_⟩
      · rw [← e5]
        exact SqL.of upd_same
      obtain rfl : zs = ys := sort_same (pm6.trans pr) rise6 ok2.rise
      have t6 := same_upd (o := .lst (zs.map V.int)) n6
      have u6 : Same H2 (upd (upd (upd H3 g (.lst [.int s2])) e (.lst ((xs.filter fun x => !decide (V.int x = V.int s2)).map V.int ++ [.int s2]))) r6 (.lst (zs.map V.int))) := Same.trans t3 ((t4.trans t5).trans t6)
      have hR6 : (upd (upd (upd H3 g (.lst [.int s2])) e (.lst ((xs.filter fun x => !decide (V.int x = V.int s2)).map V.int ++ [.int s2]))) r6 (.lst (zs.map V.int))) r6 = some (.lst (zs.map V.int)) := upd_same
      have n62 : H2 r6 = none := Same.free (Same.trans t3 (t4.trans t5)) n6
      revert u6 hR6
      generalize (upd (upd (upd H3 g (.lst [.int s2])) e (.lst ((xs.filter fun x => !decide (V.int x = V.int s2)).map V.int ++ [.int s2]))) r6 (.lst (zs.map V.int))) = H6
      intro u6 hR6
      dsimp only [gName]
      have l6 := R.same l2 u6
      have hS6 := u6.seq hS2
      have r6F : ¬ F2 r6 := (PR.bagOf l2).fresh n62
      -- the cut
      refine ⟨_, rfl, _, rfl, s, _, 1, _, rfl, rfl, hS6, atI_nat (j := 1) rfl, p, wd, h, zs, F2, s1, rfl, l6, by omega, fun z => absurd z (by omega), fun _ _ H7 F7 q7 F8 l7 m7 fr7 nF8 ap7 => ?_⟩
      have fr27 := (fr02.trans (Frame.refl (uni F2 F3) u6)).trans fr7.uni
      have hS7 : SqL K H7 s ([s0, s1, s2].map V.int) := own_sub.seq (fr27.own.seq hS)
      have hR7 := (fr7 r6 _ r6F hR6).1
      have ok7 := R.ok l7
      have ok8 := R.ok m7
      dsimp only [gName]
      have k7 : (zs.filter fun x => decide (x < s1)).length ≤ 61 := Nat.le_trans (List.length_filter_le _ _) n2
      have k8 : (zs.filter fun x => decide (s1 ≤ x)).length ≤ 61 := Nat.le_trans (List.length_filter_le _ _) n2
      -- the lower ones, made anew
      obtain ⟨dx7, fs7, hp7, hw7, hh7, _, _, _⟩ := R.ins l7
      refine ⟨_, rfl, p, _, dx7, fs7, _, rfl, hp7, T.cl_Ladder, T.n_Ladder_width, hw7, _, rfl, p, _, dx7, fs7, _, rfl, hp7, T.cl_Ladder, T.n_Ladder_high, hh7, ?_⟩
      refine evL_use (xs := (zs.filter fun x => decide (x < s1)).map V.int) (el_fil (fun x => decide (x < s1)) (Evl.ev_var rfl) (SqL.of hR7) (by omega) (fun _ => rfl) (fun x _ H3 e3 => Evl.et_test (Evl.ev_op (Evl.ev_var rfl) (Evl.ev_op (Evl.ev_var rfl) Evl.ev_c (Evl.rv_ixL (Evl.ex_l e3 hS7) (atI_nat (j := 1) rfl))) Evl.rv_I0)) (fun x _ H3 e3 _ => Evl.ev_var rfl)) fun c8 H8 nc8 t8 hc8 => ?_
      refine ⟨c8, wd, h, _, rfl, SqL.of hc8, ok7, by omega, fun H9 q9 F9 l9 t9 out9 => ?_⟩
      have u9 : Same H7 H9 := Same.trans t8 t9
      dsimp only [gName]
      -- the higher ones
      have hp9 := u9 _ _ hp7
      refine ⟨_, rfl, p, _, dx7, fs7, _, rfl, hp9, T.cl_Ladder, T.n_Ladder_width, hw7, _, rfl, p, _, dx7, fs7, _, rfl, hp9, T.cl_Ladder, T.n_Ladder_high, hh7, ?_⟩
      refine evL_use (xs := (zs.filter fun x => decide (s1 ≤ x)).map V.int) (el_fil (fun x => decide (s1 ≤ x)) (Evl.ev_var rfl) (SqL.of (u9 _ _ hR7)) (by omega) (fun _ => rfl) (fun x _ H3 e3 => Evl.et_test (Evl.ev_op (Evl.ev_var rfl) (Evl.ev_op (Evl.ev_var rfl) Evl.ev_c (Evl.rv_ixL (Evl.ex_l e3 (u9.seq hS7)) (atI_nat (j := 1) rfl))) Evl.rv_I0)) (fun x _ H3 e3 _ => Evl.ev_var rfl)) fun c10 H10 nc10 t10 hc10 => ?_
      refine ⟨c10, wd, h, _, rfl, SqL.of hc10, ok8, by omega, fun H11 q11 F11 l11 t11 out11 => ?_⟩
      have u11 : Same H9 H11 := Same.trans t10 t11
      have v11 := u9.trans u11
      dsimp only [gName]
      have hS11 := v11.seq hS7
      -- the ends
      refine ⟨_, rfl, _, rfl, s, _, 1, _, rfl, rfl, hS11, atI_nat (j := 1) rfl, p, wd, h, _, F7, s1, rfl, R.same l7 v11, by omega, fun m => absurd (of_decide_eq_true (List.mem_filter.mp m).2) (by omega), fun H12 s12 => ⟨true, rfl, iteF ?_⟩⟩
      refine ⟨_, rfl, _, rfl, s, _, 1, _, rfl, rfl, s12.seq hS11, atI_nat (j := 1) rfl, _, _, rfl, rfl, q7, wd, h, _, F8, s1 - 1, rfl, R.same m7 (v11.trans s12), by omega, fun m => absurd (of_decide_eq_true (List.mem_filter.mp m).2) (by omega), fun H13 s13 => ⟨true, rfl, iteF ?_⟩⟩
      have v13 := (v11.trans s12).trans s13
      have w13 := s12.trans s13
      have l13 := R.same l7 v13
      have m13 := R.same m7 v13
      have n13 := R.same l9 (u11.trans w13)
      have o13 := R.same l11 w13
      -- all that they tell
      refine ⟨_, rfl, _, rfl, p, s, wd, h, _, F7, F7, s0, s1, s2, rfl, l13, fun _ h => h, PR.bagOf l13, v13.seq hS7, a0, a1, b0, b1, by omega, fun H14 r14 s14 d14 => ?_⟩
      have n14 := R.same n13 s14
      refine ⟨_, rfl, _, rfl, q9, s, wd, h, _, F9, F9, s0, s1, s2, rfl, n14, fun _ h => h, PR.bagOf n14, (v13.trans s14).seq hS7, a0, a1, b0, b1, by omega, fun H15 r15 s15 d15 => ?_⟩
      refine told_eq (d14.same (Frame.refl F7 s15).own) d15 ⟨true, rfl, ?_⟩
      have w15 := s14.trans s15
      have m15 := R.same m13 w15
      refine ⟨_, rfl, _, rfl, q7, s, wd, h, _, F8, F8, s0, s1, s2, rfl, m15, fun _ h => h, PR.bagOf m15, (v13.trans w15).seq hS7, a0, a1, b0, b1, by omega, fun H16 r16 s16 d16 => ?_⟩
      have o16 := R.same o13 (w15.trans s16)
      refine ⟨_, rfl, _, rfl, q11, s, wd, h, _, F11, F11, s0, s1, s2, rfl, o16, fun _ h => h, PR.bagOf o16, ((v13.trans w15).trans s16).seq hS7, a0, a1, b0, b1, by omega, fun H17 r17 s17 d17 => ?_⟩
      exact told_eq (d16.same (Frame.refl F8 s17).own) d17 (q H17 F7 (((fr27.trans (Frame.less fun b h => .inl h)).trans (Frame.refl F7 (((v13.trans w15).trans s16).trans s17)))))
theorem ok_l_by_turns (T : Txt K mg) (R : Rep K T.c_Ladder) (PR : Prog P w K mg base T R) : FnOk P w K mg base CX0 23 T.f_l_by_turns T.fd_l_by_turns ["_law_ladder", "_law_row", "_law_whole", "_law_spot"] (sp_l_by_turns T R) := by
  have G_ladder_put := PR.put
  have G_ladder_row := PR.row
  have G_ladder_level := PR.level
  have G_ladder_trail := PR.trail
  have G_ladder_stretch := PR.stretch
  have G_ladder_take := PR.take
  have G_l_ends : FnOk P w K mg base CX0 21 T.f_l_ends T.fd_l_ends ["_law_ladder", "_law_gone"] (sp_l_ends T R) := ok_l_ends T R PR
  have G_l_told : FnOk P w K mg base CX0 21 T.f_l_told T.fd_l_told ["_law_ladder", "_law_spot"] (sp_l_told T R) := ok_l_told T R PR
  have G_l_is_there : FnOk P w K mg base CX0 21 T.f_l_is_there T.fd_l_is_there ["_law_ladder", "_law_number_here"] (sp_l_is_there T R) := ok_l_is_there T R PR
  have G_l_made : FnOk P w K mg base CX0 22 T.f_l_made T.fd_l_made ["_law_width", "_law_high", "_law_row"] (sp_l_made T R) := ok_l_made T R PR
  refine T.F_l_by_turns.ok sc_l_by_turns (fun vs H Q E h => ?_) (fun cdv A outer s H vs Q E hr h => ?_)
  · obtain ⟨p, a, b, s, wd, h, xs, F, s0, s1, s2, rfl, _⟩ := h
    rfl
  · obtain ⟨p, a, b, s, wd, h, xs, F, s0, s1, s2, rfl, hL, hA, hB, hS, a0, a1, b0, b1, hlen, q⟩ := h
    refine ⟨_, (pss_cons (ps_set (i := 4) sc_l_by_turns.nd rfl (.inr rfl) (pe_ix ix_list (pv 3) pe_int (fun _ _ => rfl)))
      (pss_cons (ps_set (i := 5) sc_l_by_turns.nd rfl (.inl rfl) (pe_lst (pa_cons (pe_meth0 (pv 0) T.cl_Ladder T.m_ladder_row G_ladder_row (hr.mono (by decide)) T.bd_ladder_row .nil pass0) (pa_cons (pe_meth (pv 0) T.cl_Ladder T.m_ladder_level G_ladder_level (hr.mono (by decide)) T.bd_ladder_level .nil passL (pa_cons (pe_fld (pv 0) rfl) pa_nil)) (pa_cons (pe_meth (pv 0) T.cl_Ladder T.m_ladder_trail G_ladder_trail (hr.mono (by decide)) T.bd_ladder_trail .nil passL (pa_cons (pv 4) pa_nil)) (pa_cons (pe_meth (pv 0) T.cl_Ladder T.m_ladder_stretch G_ladder_stretch (hr.mono (by decide)) T.bd_ladder_stretch .nil passL (pa_cons pe_int (pa_cons (pe_fld (pv 0) rfl) pa_nil))) pa_nil))))))
      (pss_cons (ps_setLc (i := 6) (own := [("_law_one", 8)]) (g := gName 8) (by rfl) sc_l_by_turns.nd rfl rfl (sw_true rfl rfl rfl (by decide +kernel)) (pi_list (pv 5)) (blkOk_by (own := [("_law_one", 8)]) (N := ["_law_ladder", "_law_row", "_law_whole", "_law_spot", "_law_number_here", "_law_held", "_law_kept", "_law_some", "_law_one"]) (sc := defScope s_l_by_turns) (by decide +kernel)) (fun _ _ _ _ _ => (pg_name (i := 8) sc_l_by_turns.nd rfl (Or.inl rfl))) (fun _ _ _ _ _ => pts_nil) (fun _ _ _ _ _ => (pe_callTy (T := "list") (show CallR _ _ (Evl.rListS K) from call_list_of) (by rfl) T.b_list (by decide +kernel) (pa_cons (pv 8) pa_nil))))
      (pss_cons (ps_setLc (i := 7) (own := [("_law_one", 8)]) (g := gName 8) (by rfl) sc_l_by_turns.nd rfl rfl (sw_true rfl rfl rfl (by decide +kernel)) (pi_list (pv 1)) (blkOk_by (own := [("_law_one", 8)]) (N := ["_law_ladder", "_law_row", "_law_whole", "_law_spot", "_law_number_here", "_law_held", "_law_kept", "_law_some", "_law_one"]) (sc := defScope s_l_by_turns) (by decide +kernel)) (fun _ _ _ _ _ => (pg_name (i := 8) sc_l_by_turns.nd rfl (Or.inl rfl))) (fun _ _ _ _ _ => (pts_one (pt_cmpR op_ne (pv 8) (pv 4) (nomark _)))) (fun _ _ _ _ _ => (pv 8)))
      (Evl.pss_cut (ps_if (pt_cmpR op_in_seq (pv 4) (pv 1) (by rfl)) (pss_one (ps_expr (pe_meth (pv 0) T.cl_Ladder T.m_ladder_take G_ladder_take (hr.mono (by decide)) T.bd_ladder_take .nil passL (pa_cons (pv 4) pa_nil)))) pss_nil)
      (pss_cons (ps_if (pt_not (pt_val (pe_call G_l_ends (hr.mono (by decide)) (by rfl) T.g_l_ends T.F_l_ends.kp T.bd_l_ends .nil pass0 (pa_cons (pv 0) (pa_cons (pv 4) pa_nil))))) (pss_one (ps_ret pe_bl)) pss_nil)
      (Evl.pss_cut (ps_if (pt_cmpR op_notIn_seq (pv 4) (pv 1) (by rfl)) (pss_cons (ps_expr (pe_meth (pv 0) T.cl_Ladder T.m_ladder_put G_ladder_put (hr.mono (by decide)) T.bd_ladder_put .nil passL (pa_cons (pv 4) pa_nil)))
      (pss_one (ps_set (i := 7) sc_l_by_turns.nd rfl (.inl rfl) (pe_op op_cat (pv 1) (pe_lst (pa_cons (pv 4) pa_nil)))))) pss_nil)
      (pss_cons (ps_if (PW.pt (pw_and (pt_cmpR op_notIn_seq (pv 4) (pv 1) (by rfl)) (pw_and1 (pt_not (pt_val (pe_call G_l_is_there (hr.mono (by decide)) (by rfl) T.g_l_is_there T.F_l_is_there.kp T.bd_l_is_there .nil pass0 (pa_cons (pv 0) (pa_cons (pv 4) pa_nil)))))))) (pss_one (ps_ret pe_bl)) pss_nil)
      (pss_cons (ps_if (pt_cmpR (op_neD hr.units) (pe_call G_l_told (hr.mono (by decide)) (by rfl) T.g_l_told T.F_l_told.kp T.bd_l_told .nil pass0 (pa_cons (pv 0) (pa_cons (pv 3) pa_nil))) (pe_call G_l_told (hr.mono (by decide)) (by rfl) T.g_l_told T.F_l_told.kp T.bd_l_told .nil pass0 (pa_cons (pe_call G_l_made hr (by rfl) T.g_l_made T.F_l_made.kp T.bd_l_made .nil pass0 (pa_cons (pe_fld (pv 0) rfl) (pa_cons (pe_fld (pv 0) rfl) (pa_cons (pe_callB cr_sortedI (by rfl) T.b_sorted (by decide +kernel) (pa_cons (pv 7) pa_nil)) pa_nil)))) (pa_cons (pv 3) pa_nil))) (nomark _)) (pss_one (ps_ret pe_bl)) pss_nil)
      (pss_cons (ps_if (pt_cmpR op_notIn_seq (pv 4) (pv 1) (by rfl)) (pss_cons (ps_expr (pe_meth (pv 0) T.cl_Ladder T.m_ladder_take G_ladder_take (hr.mono (by decide)) T.bd_ladder_take .nil passL (pa_cons (pv 4) pa_nil)))
      (pss_one (ps_ret (pe_and (pe_cmpR (op_eqD hr.units) (pe_call G_l_told (hr.mono (by decide)) (by rfl) T.g_l_told T.F_l_told.kp T.bd_l_told .nil pass0 (pa_cons (pv 0) (pa_cons (pv 3) pa_nil))) (pv 2) (nomark _)) (pe_one (pe_cmpR (op_eqD hr.units) (pv 5) (pv 6) (nomark _))))))) pss_nil)
      (pss_cons (ps_expr (pe_meth (pv 0) T.cl_Ladder T.m_ladder_put G_ladder_put (hr.mono (by decide)) T.bd_ladder_put .nil passL (pa_cons (pv 4) pa_nil)))
      (pss_one (ps_ret (pe_and (pe_call G_l_is_there (hr.mono (by decide)) (by rfl) T.g_l_is_there T.F_l_is_there.kp T.bd_l_is_there .nil pass0 (pa_cons (pv 0) (pa_cons (pv 4) pa_nil))) (pe_and (pe_cmpR (op_eqD hr.units) (pe_call G_l_told (hr.mono (by decide)) (by rfl) T.g_l_told T.F_l_told.kp T.bd_l_told .nil pass0 (pa_cons (pv 0) (pa_cons (pv 3) pa_nil))) (pv 2) (nomark _)) (pe_one (pe_cmpR (op_eqD hr.units) (pv 5) (pv 6) (nomark _)))))))))))))))))), ?_⟩
    obtain ⟨dx, fs, hp, hwidth, hhigh, hlimit, hmany, hm⟩ := R.ins hL
    have ok := R.ok hL
    have pl := pow_ge2 ok.w2 ok.h1
    have h12 := ok.h12
    have bg := PR.bagOf hL
    refine ⟨_, rfl, s, _, 2, _, rfl, rfl, own_sub.seq hS, atI_nat (j := 2) rfl, ?_⟩
    dsimp only [gName]
    -- what is held
    refine ⟨_, rfl, p, dx, fs, rfl, hp, hm _ (by decide +kernel), p, wd, h, xs, F, rfl, hL, by omega, fun H1 r1 t1 n1 e1 => ?_⟩
    refine ⟨_, rfl, p, dx, fs, rfl, t1 _ _ hp, hm _ (by decide +kernel), _, rfl, p, _, dx, fs, _, rfl, t1 _ _ hp, T.cl_Ladder, T.n_Ladder_high, hhigh, p, wd, h, xs, F, _, rfl, R.same hL t1, by omega, fun z => absurd z (by omega), fun l el hl H2 r2 t2 n2 e2 => ?_⟩
    obtain rfl : l = h := by omega
    have u2 := t1.trans t2
    refine ⟨_, rfl, p, dx, fs, rfl, u2 _ _ hp, hm _ (by decide +kernel), _, rfl, p, wd, l, xs, F, _, s2, rfl, view_out (R.same hL u2), by omega, fun z => absurd z (by omega), fun _ _ H3 G3 r3 ws v3 _ t3 n3 _ e3 d3 => ?_⟩
    have u3 := u2.trans t3
    refine ⟨_, rfl, p, dx, fs, rfl, u3 _ _ hp, hm _ (by decide +kernel), _, rfl, p, _, dx, fs, _, rfl, u3 _ _ hp, T.cl_Ladder, T.n_Ladder_limit, hlimit, p, wd, l, xs, F, 0, _, rfl, R.same hL u3, by omega, fun z => absurd z (by omega), fun _ _ _ _ H4 r4 t4 n4 e4 => ⟨(by show 4 ≤ sizeLine; decide), fun hb nhb => ?_⟩⟩
    have t5 := same_upd (o := .lst [.ref r1, .ref r2, .ref r3, .ref r4]) nhb
    have u5 := (u3.trans t4).trans t5
    have t35 := t4.trans t5
    have b1' := bg.fresh n1
    have b2' := (bg.same t1).fresh n2
    have b3' := (bg.same u2).fresh n3
    have b4' := (bg.same u3).fresh n4
    have bh' := (bg.same (u3.trans t4)).fresh nhb
    have dh : Dh (outF F (upd H4 hb (.lst [.ref r1, .ref r2, .ref r3, .ref r4]))) (.ref hb) (.list [dI xs, dI (levL wd l xs), .list ((trailR wd l xs s2).map stD), dI (stretchL xs 0 (wd ^ l))]) := by
      refine .lst (by rw [outF_out bh']; exact upd_same) (.cons (.lst ?_ (dhAll_ints _ _)) (.cons (.lst ?_ (dhAll_ints _ _)) (.cons (.lst (xs := ws) ?_ ?_) (.cons (.lst ?_ (dhAll_ints _ _)) .nil))))
      · rw [outF_out b1']
        exact (t2.trans (t3.trans t35)) _ _ e1
      · rw [outF_out b2']
        exact (t3.trans t35) _ _ e2
      · rw [outF_out b3']
        exact t35 _ _ (v3.sub _ _ e3)
      · exact dh_bag (F := F) (bg.same u2) (t3.trans t35) (v3.sub.trans t35) stD_flat d3
      · rw [outF_out b4']
        exact t5 _ _ e4
    have isl : ∀ d ∈ [dI xs, dI (levL wd l xs), .list ((trailR wd l xs s2).map stD), dI (stretchL xs 0 (wd ^ l))], ∃ es, d = .list es := fun d hd => by
      simp only [List.mem_cons, List.not_mem_nil, or_false] at hd
      rcases hd with e | e | e | e <;> exact ⟨_, e⟩
    have shp : SeqAt.shaped (.list [dI xs, dI (levL wd l xs), .list ((trailR wd l xs s2).map stD), dI (stretchL xs 0 (wd ^ l))]) = true := by
      have di : ∀ ns : List Int, (dI ns).canLay0 = true ∧ (dI ns).depth ≤ 2 := fun ns => ⟨canLay_ints ns, by
        show PyData.depthAll (ns.map PyData.int) + 1 ≤ 2
        rw [depth_ints]
        decide⟩
      refine shaped_list 2 (fun d hd => ?_) (by decide)
      simp only [List.mem_cons, List.not_mem_nil, or_false] at hd
      rcases hd with e | e | e | e
      · rw [e]; exact di _
      · rw [e]; exact di _
      · rw [e]
        have hst : ∀ d ∈ (trailR wd l xs s2).map stD, d.canLay0 = true ∧ d.depth ≤ 1 := fun d hd => by
          obtain ⟨s, _, rfl⟩ := List.mem_map.mp hd
          exact ⟨rfl, Nat.le_refl _⟩
        exact ⟨canLayAll_of fun d hd => (hst d hd).1, Nat.succ_le_succ (depthAll_le fun d hd => (hst d hd).2)⟩
      · rw [e]; exact di _
    have eh : (upd H4 hb (.lst [.ref r1, .ref r2, .ref r3, .ref r4])) hb = some (.lst [.ref r1, .ref r2, .ref r3, .ref r4]) := upd_same
    dsimp only [gName]
    show tSeq _ _ _ [nR p, nR a, nR b, nR s, nI s2, nR hb, none, none, none] _
    clear e1 e2 e3 e4 d3 t35 b1' b2' b3' b4'
    revert u5 dh isl shp eh
    generalize (upd H4 hb (.lst [.ref r1, .ref r2, .ref r3, .ref r4])) = H5
    generalize [dI xs, dI (levL wd l xs), PyData.list ((trailR wd l xs s2).map stD), dI (stretchL xs 0 (wd ^ l))] = ds
    intro u5 dh isl shp eh
    -- what is kept
    obtain ⟨vs, ev, dv, lv4⟩ : ∃ vs, H5 hb = some (.lst vs) ∧ DhAll (outF F H5) vs ds ∧ vs.length = 4 := by
      cases dh with
      | lst e d =>
        have e2 := own_sub _ _ e
        rw [eh] at e2
        have e3 := HO.lst.inj (Option.some.inj e2)
        subst e3
        exact ⟨_, eh, d, rfl⟩
    refine ⟨_, rfl, hb, rfl, ⟨_, SqL.of ev⟩, fun E nE => ?_⟩
    have tE := same_upd (o := .lst []) nE
    have bE : ¬ F E := (bg.same u5).fresh nE
    have fE : Frame F (uni F (one E)) H5 (upd H5 E (.lst [])) := Frame.more tE fun c hc => by
      have hc2 : c = E := hc
      rw [hc2]
      exact nE
    refine lc_list (K := K) (a := hb) (xs := vs) (fun i H' => Same H5 H' ∧ ∃ ws, Mk14 (uni F (one E)) E H' ws (ds.take i) ∧ ws.length = i ∧ Frame F (uni F (one E)) H5 H') ⟨tE, [], ⟨((bg.same u5).same tE).uni (Bag.one upd_same), .inr rfl, upd_same, .nil⟩, rfl, fE⟩ (fun i H' _ hh => SqL.of (hh.1 _ _ ev)) (fun i x H' hi hh => ?_) (fun H6 hh => ?_)
    · obtain ⟨sE, ws, mw, wl, fw⟩ := hh
      obtain ⟨d0, hd0, dx0⟩ := dv.get hi
      obtain ⟨es, rfl⟩ := isl d0 (List.mem_of_getElem? hd0)
      have il := (List.getElem?_eq_some_iff.mp hi).1
      have dx1 := dx0.same fw.own
      cases dx1 with
      | @lst _ zs0 _ ec hc =>
        refine ⟨rfl, ?_⟩
        dsimp only [tYes]
        rw [if_pos rfl]
        refine ⟨_, rfl, _, _, rfl, .inl (SqL.of (own_sub _ _ ec)), fun l1 nl1 => ⟨ws, by rw [upd_ne (ne_of_none mw.eD nl1)]; exact mw.eD, small1000 (by omega), same_mut (sE.trans (same_upd nl1)) nE, ws ++ [.ref l1], ?_, by rw [List.length_append, wl]; rfl, ?_⟩⟩
        · rw [List.take_succ, hd0]
          have tl := same_upd (o := .lst zs0) nl1
          exact mw.app tl (.lst (by rw [outF_out (mw.bag.fresh nl1)]; exact upd_same) (hc.same (Frame.refl _ tl).own))
        · exact (fw.trans (Frame.refl _ (same_upd nl1))).trans (frame_upd (.inr rfl))
    obtain ⟨sE, ws, mw, wl, fw⟩ := hh
    have dlen : vs.length = ds.length := dv.len
    rw [dlen, List.take_length] at mw
    have u6 := u5.trans sE
    have dk : Dh (outF F H6) (.ref E) (.list ds) := .lst (by rw [outF_out bE]; exact mw.eD) (mw.all.same (Frame.less fun c h => .inl h).own)
    have dh6 := dh.same (Frame.refl F sE).own
    dsimp only [gName]
    clear mw fw fE tE ev dv eh
    -- all others
    have hA6 : SqL K H6 a (xs.map V.int) := SqL.of (u6 _ _ (own_sub _ _ hA))
    refine Evl.q_asgL (xs := (xs.filter fun x => !decide (V.int x = V.int s2)).map V.int) (el_fil (fun x => !decide (V.int x = V.int s2)) (Evl.ev_var rfl) hA6 (by omega) (fun _ => rfl) (fun x _ H3 e3 => Evl.et_test (Evl.ev_op (Evl.ev_var rfl) (Evl.ev_var rfl) (Evl.rv_ne rfl))) (fun x _ H3 e3 _ => Evl.ev_var rfl)) fun c H7 nc t7 hc => ?_
    rw [filt_rem] at hc
    have t7' : Same H6 H7 := t7
    have u7 : Same H H7 := u6.trans t7'
    have cF : ¬ F c := (bg.same u6).fresh nc
    have hL7 := R.same hL u7
    have dk7 := dk.same (Frame.refl F t7').own
    have dh7 := dh6.same (Frame.refl F t7').own
    have hc7 : outF F H7 c = some (.lst ((remR s2 xs).map V.int)) := by rw [outF_out cF]; exact hc
    have hA7 := (Frame.refl F u7).own _ _ hA
    have hB7 := hB.same (Frame.refl F u7).own
    have hS7 := (Frame.refl F u7).own.seq hS
    show Evl.tCut _ _ _ [nR p, nR a, nR b, nR s, nI s2, nR hb, nR E, nR c, none] _
    clear dk dh6 hA6 hA hB hS u6 u5 sE dh
    -- taken out
    refine ⟨fun σ H' => ∃ F', R.Lad H' p wd l (remR s2 xs) F' ∧ Frame F F' H7 H' ∧ σ = [nR p, nR a, nR b, nR s, nI s2, nR hb, nR E, nR c, none], ?_, ?_⟩
    · refine ⟨_, rfl, _, rfl, a, _, rfl, .inl (SqL.of (own_sub _ _ hA7)), rfl, flat_ints _, _, rfl, ?_⟩
      show if inV (V.int s2) (xs.map V.int) = true then _ else _
      rw [inV_ints]
      by_cases hn : s2 ∈ xs
      · rw [decide_eq_true hn]
        refine iteT ?_
        obtain ⟨d7, f7, hp7, _, _, _, _, hm7⟩ := R.ins hL7
        exact ⟨_, rfl, p, d7, f7, rfl, hp7, hm7 _ (by decide +kernel), _, rfl, p, wd, l, xs, F, _, s2, rfl, view_out hL7, by omega, fun z => absurd z (by omega), fun _ _ z => absurd hn z, fun _ H8 G8 F8 r8 us8 v8 s8 _ _ _ => ⟨F8, v8.lad, frame_view v8 s8, rfl⟩⟩
      · rw [decide_eq_false hn]
        refine iteF ⟨F, ?_, Frame.refl F (Same.refl _), rfl⟩
        rw [remR_none hn]
        exact hL7
    rintro σ H8 ⟨F8, l8, fr8, rfl⟩
    have k8 := remR_len s2 xs
    refine ⟨_, rfl, _, rfl, p, wd, l, _, F8, s2, rfl, l8, by omega, fun m => (mem_remR.mp m).2 rfl, fun H9 t9 => ⟨true, rfl, iteF ?_⟩⟩
    have l9 := R.same l8 t9
    have fr9 := fr8.trans (Frame.refl F8 t9)
    have hA9 := fr9.own _ _ hA7
    -- put in
    refine ⟨fun σ H' => ∃ (F' : Addr → Prop) (c : Addr) (cur zs : List Int), R.Lad H' p wd l cur F' ∧ Frame F F' H7 H' ∧ outF F' H' c = some (.lst (zs.map V.int)) ∧ zs.Perm cur ∧ zs.length ≤ 61 ∧ (s2 ∈ xs → cur = remR s2 xs) ∧ (s2 ∉ xs → cur = insR s2 xs) ∧ σ = [nR p, nR a, nR b, nR s, nI s2, nR hb, nR E, nR c, none], ?_, ?_⟩
    · refine ⟨_, rfl, _, rfl, a, _, rfl, .inl (SqL.of (own_sub _ _ hA9)), rfl, flat_ints _, _, rfl, ?_⟩
      show if (!inV (V.int s2) (xs.map V.int)) = true then _ else _
      rw [inV_ints]
      by_cases hn : s2 ∈ xs
      · rw [decide_eq_true hn]
        exact iteF ⟨F8, c, _, remR s2 xs, l9, fr9, fr9.own _ _ hc7, List.Perm.refl _, by omega, fun _ => rfl, fun z => absurd hn z, rfl⟩
      · rw [decide_eq_false hn]
        refine iteT ?_
        obtain ⟨d7, f7, hp7, _, _, _, _, hm7⟩ := R.ins l9
        refine ⟨_, rfl, p, d7, f7, rfl, hp7, hm7 _ (by decide +kernel), _, rfl, p, wd, l, _, F8, _, s2, rfl, view_out l9, by omega, fun z => absurd z (by omega), fun m => absurd rfl (mem_remR.mp m).2, fun _ _ _ H10 G10 F10 r10 us10 v10 s10 _ _ _ => ?_⟩
        have fr10 := fr9.trans (frame_view v10 s10)
        have hA10 := own_sub _ _ (fr10.own _ _ hA7)
        have l10 := v10.lad
        rw [remR_none hn] at l10
        refine ⟨_, rfl, _, rfl, (by show 1 ≤ sizeLine; decide), fun g ng => ?_⟩
        have tg := same_upd (o := .lst [.int s2]) ng
        refine ⟨a, g, _, _, rfl, rfl, tg _ _ hA10, upd_same, ?_, fun e ne => ?_⟩
        · rw [List.length_map]
          exact Nat.le_of_lt (small1000 (by show _ + 1 ≤ 1000; omega))
        have te := same_upd (o := .lst (xs.map V.int ++ [.int s2])) ne
        have l11 := R.same l10 (tg.trans te)
        have eF : ¬ F10 e := ((PR.bagOf l10).same tg).fresh ne
        have e5 : xs.map V.int ++ [V.int s2] = (xs ++ [s2]).map V.int := by
          rw [List.map_append]
          rfl
        refine ⟨F10, e, _, xs ++ [s2], l11, fr10.trans (Frame.refl F10 (tg.trans te)), ?_, ?_, ?_, fun z => absurd z hn, fun _ => rfl, rfl⟩
        · rw [outF_out eF, ← e5]
          exact upd_same
        · exact (List.perm_append_singleton s2 xs).trans (insR_perm hn).symm
        · rw [List.length_append]
          show xs.length + 1 ≤ 61
          omega
    rintro σ H10 ⟨F10, c2, cur, zs, l10, fr10, hc10, pm, zl, i1, i2, rfl⟩
    have lc : cur.length = zs.length := pm.length_eq.symm
    -- there it is
    refine Evl.q_when (b := false) (Evl.et_is (Evl.et_and (b := false) (Evl.et_test (Evl.ev_op (Evl.ev_var rfl) (Evl.ev_var rfl) (rv_niI (SqL.of (own_sub _ _ (fr10.own _ _ hA7)))))) fun hb => Evl.et_is (Evl.et_not (Evl.et_B (b := true) (Evl.ev_call (vs := [.ref p, .int s2]) (Evl.ea_cons (Evl.ev_var rfl) (Evl.ea_cons (Evl.ev_var rfl) Evl.ea_nil)) fun H8 e8 Q8 q8 E8 => ?_))) rfl) (by cases (!decide (s2 ∈ xs)) <;> rfl)) (fun hb => nomatch hb) (fun _ H11 t11 => ?_)
    · have hn : s2 ∉ xs := by
        rw [Bool.not_eq_true', decide_eq_false_iff_not] at hb
        exact hb
      exact ⟨p, wd, l, cur, F10, s2, rfl, R.same l10 e8, by omega, by rw [i2 hn]; exact mem_insR.mpr (.inl rfl), fun H9 s9 => q8 H9 s9⟩
    have t11' : Same H10 H11 := t11
    have l11 := R.same l10 t11'
    have fr11 := fr10.trans (Frame.refl F10 t11')
    have hc11 := own_sub _ _ ((Frame.refl F10 t11').own _ _ hc10)
    have hS11 : SqL K H11 s ([s0, s1, s2].map V.int) := own_sub.seq (fr11.own.seq hS7)
    have ok11 := R.ok l11
    -- as one made anew
    refine ⟨_, rfl, _, rfl, p, s, wd, l, cur, F10, F10, s0, s1, s2, rfl, l11, fun _ h => h, PR.bagOf l11, hS11, a0, a1, b0, b1, by omega, fun H12 r12 t12 d12 => ?_⟩
    obtain ⟨d8, f8, hp8, hw8, hh8, _, _, _⟩ := R.ins (R.same l11 t12)
    refine ⟨_, rfl, p, _, d8, f8, _, rfl, hp8, T.cl_Ladder, T.n_Ladder_width, hw8, _, rfl, p, _, d8, f8, _, rfl, hp8, T.cl_Ladder, T.n_Ladder_high, hh8, _, rfl, c2, zs, rfl, SqL.of (t12 _ _ hc11), fun ys r13 pm13 rise13 n13 => ?_⟩
    obtain rfl : ys = cur := sort_same (pm13.trans pm) rise13 ok11.rise
    have t13 := same_upd (o := .lst (ys.map V.int)) n13
    refine ⟨r13, wd, l, ys, rfl, SqL.of upd_same, ok11, by omega, fun H14 q14 F14 l14 t14 out14 => ?_⟩
    have u14 := (t12.trans t13).trans t14
    refine ⟨_, rfl, q14, s, wd, l, ys, F14, F14, s0, s1, s2, rfl, l14, fun _ h => h, PR.bagOf l14, u14.seq hS11, a0, a1, b0, b1, by omega, fun H15 r15 t15 d15 => ?_⟩
    refine told_ne (d12.same (Frame.refl F10 ((t13.trans t14).trans t15)).own) d15 ⟨false, rfl, iteF ?_⟩
    have u15 := u14.trans t15
    have l15 := R.same l11 u15
    have fr15 := fr11.trans (Frame.refl F10 u15)
    have hA15 := own_sub _ _ (fr15.own _ _ hA7)
    have frH := Frame.refl F u7
    -- back
    refine ⟨_, rfl, _, rfl, a, _, rfl, .inl (SqL.of hA15), rfl, flat_ints _, _, rfl, ?_⟩
    show if (!inV (V.int s2) (xs.map V.int)) = true then _ else _
    rw [inV_ints]
    obtain ⟨d9, f9, hp9, _, _, _, _, hm9⟩ := R.ins l15
    by_cases hn : s2 ∈ xs
    · rw [decide_eq_true hn]
      refine iteF ?_
      rw [i1 hn] at l15
      refine ⟨_, rfl, p, d9, f9, rfl, hp9, hm9 _ (by decide +kernel), _, rfl, p, wd, l, _, F10, _, s2, rfl, view_out l15, by omega, fun z => absurd z (by omega), fun m => absurd rfl (mem_remR.mp m).2, fun _ _ _ H16 G16 F16 r16 us16 v16 s16 _ _ _ => ?_⟩
      have fr16 := fr15.trans (frame_view v16 s16)
      have l16 := v16.lad
      rw [insR_rem ok.rise hn] at l16
      refine ⟨_, rfl, _, rfl, p, wd, l, xs, F16, s2, rfl, l16, by omega, hn, fun H17 t17 => ⟨true, rfl, ?_⟩⟩
      have l17 := R.same l16 t17
      have fr17 := fr16.trans (Frame.refl F16 t17)
      refine ⟨_, rfl, _, rfl, p, s, wd, l, xs, F16, F16, s0, s1, s2, rfl, l17, fun _ h => h, PR.bagOf l17, own_sub.seq (fr17.own.seq hS7), a0, a1, b0, b1, by omega, fun H18 r18 t18 d18 => ⟨_, rfl, ?_⟩⟩
      have fr18 := fr17.trans (Frame.refl F16 t18)
      refine told_eq d18 (hB7.same fr18.own) ⟨true, rfl, ?_⟩
      exact ⟨_, rfl, _, rfl, eqD_same ((dh7.same fr18.own).same own_sub).dp ((dk7.same fr18.own).same own_sub).dp shp (q H18 F16 (R.same l17 t18) (frH.trans fr18))⟩
    · rw [decide_eq_false hn]
      refine iteT ?_
      rw [i2 hn] at l15
      have k15 := insR_len hn
      refine ⟨_, rfl, p, d9, f9, rfl, hp9, hm9 _ (by decide +kernel), _, rfl, p, wd, l, _, F10, _, s2, rfl, view_out l15, by omega, fun z => absurd z (by omega), fun _ _ z => absurd (mem_insR.mpr (.inl rfl)) z, fun _ H16 G16 F16 r16 us16 v16 s16 _ _ _ => ?_⟩
      have fr16 := fr15.trans (frame_view v16 s16)
      have l16 := v16.lad
      rw [remR_ins ok.rise hn] at l16
      refine ⟨_, rfl, _, rfl, p, s, wd, l, xs, F16, F16, s0, s1, s2, rfl, l16, fun _ h => h, PR.bagOf l16, own_sub.seq (fr16.own.seq hS7), a0, a1, b0, b1, by omega, fun H18 r18 t18 d18 => ⟨_, rfl, ?_⟩⟩
      have fr18 := fr16.trans (Frame.refl F16 t18)
      refine told_eq d18 (hB7.same fr18.own) ⟨true, rfl, ?_⟩
      exact ⟨_, rfl, _, rfl, eqD_same ((dh7.same fr18.own).same own_sub).dp ((dk7.same fr18.own).same own_sub).dp shp (q H18 F16 (R.same l16 t18) (frH.trans fr18))⟩
theorem ok_l_goes_on (T : Txt K mg) (R : Rep K T.c_Ladder) (PR : Prog P w K mg base T R) : FnOk P w K mg base CX0 24 T.f_l_goes_on T.fd_l_goes_on ["_law_ladder", "_law_part", "_law_row", "_law_rest", "_law_spot"] (sp_l_goes_on T R) := by
  have G_l_made : FnOk P w K mg base CX0 22 T.f_l_made T.fd_l_made ["_law_width", "_law_high", "_law_row"] (sp_l_made T R) := ok_l_made T R PR
  have G_l_refused : FnOk P w K mg base CX0 21 T.f_l_refused T.fd_l_refused ["_law_ladder", "_law_other"] (sp_l_refused T R) := ok_l_refused T R PR
  have G_ladder_take := PR.take
  have G_ladder_put := PR.put
  have G_l_told : FnOk P w K mg base CX0 21 T.f_l_told T.fd_l_told ["_law_ladder", "_law_spot"] (sp_l_told T R) := ok_l_told T R PR
  have G_l_again : FnOk P w K mg base CX0 23 T.f_l_again T.fd_l_again ["_law_ladder", "_law_row", "_law_spot"] (sp_l_again T R) := ok_l_again T R PR
  refine T.F_l_goes_on.ok sc_l_goes_on (fun vs H Q E h => ?_) (fun cdv A outer s H vs Q E hr h => ?_)
  · obtain ⟨p, q, a, r, s, wd, h, xs, ys, F, F2, s0, s1, s2, rfl, _⟩ := h
    rfl
  · obtain ⟨p, q, a, r, s, wd, h, xs, ys, F, F2, s0, s1, s2, rfl, hL, hM, ap, hA, hR, hS, a0, a1, b0, b1, hlen, hlen2, fin⟩ := h
    refine ⟨_, (pss_cons (ps_if (pt_cmpR op_ne (pe_call G_l_refused (hr.mono (by decide)) (by rfl) T.g_l_refused T.F_l_refused.kp T.bd_l_refused .nil pass0 (pa_cons (pv 0) (pa_cons (pv 0) pa_nil))) (pe_ix ix_list (pe_lst (pa_cons pe_int (pa_cons pe_int pa_nil))) (pe_callTy call_int1 (by rfl) T.b_int (by decide +kernel) (pa_cons (pe_cmpR (op_neD hr.units) (pv 2) (pe_lst pa_nil) (nomark _)) pa_nil)) (fun _ _ => rfl)) (nomark _)) (pss_one (ps_ret pe_bl)) pss_nil)
      (Evl.pss_cut (ps_if (pt_cmpR (op_neD hr.units) (pv 2) (pe_lst pa_nil) (nomark _)) (pss_cons (ps_expr (pe_meth (pv 0) T.cl_Ladder T.m_ladder_take G_ladder_take (hr.mono (by decide)) T.bd_ladder_take .nil passL (pa_cons (pe_ix ix_list (pv 2) (pe_un un_neg pe_int) (fun _ _ => rfl)) pa_nil)))
      (pss_cons (ps_expr (pe_meth (pv 0) T.cl_Ladder T.m_ladder_put G_ladder_put (hr.mono (by decide)) T.bd_ladder_put .nil passL (pa_cons (pe_ix ix_list (pv 2) (pe_un un_neg pe_int) (fun _ _ => rfl)) pa_nil)))
      (pss_one (ps_expr (pe_meth (pv 0) T.cl_Ladder T.m_ladder_take G_ladder_take (hr.mono (by decide)) T.bd_ladder_take .nil passL (pa_cons (pe_ix ix_list (pv 2) pe_int (fun _ _ => rfl)) pa_nil)))))) pss_nil)
      (Evl.pss_cut (ps_if (pt_cmpR (op_neD hr.units) (pv 3) (pe_lst pa_nil) (nomark _)) (pss_cons (ps_set (i := 5) sc_l_goes_on.nd rfl (.inl rfl) (pe_call G_l_made (hr.mono (by decide)) (by rfl) T.g_l_made T.F_l_made.kp T.bd_l_made .nil pass0 (pa_cons (pe_fld (pv 0) rfl) (pa_cons (pe_fld (pv 0) rfl) (pa_cons (pv 3) pa_nil)))))
      (pss_one (ps_if (pt_cmpR (op_neD hr.units) (pe_meth (pv 1) T.cl_Ladder T.m_ladder_take G_ladder_take (hr.mono (by decide)) T.bd_ladder_take .nil passL (pa_cons (pe_ix ix_list (pv 3) pe_int (fun _ _ => rfl)) pa_nil)) (pe_meth (pv 5) T.cl_Ladder T.m_ladder_take G_ladder_take (hr.mono (by decide)) T.bd_ladder_take .nil passL (pa_cons (pe_ix ix_list (pv 3) pe_int (fun _ _ => rfl)) pa_nil)) (nomark _)) (pss_one (ps_ret pe_bl)) pss_nil))) pss_nil)
      (pss_cons (ps_set (i := 6) sc_l_goes_on.nd rfl (.inl rfl) (pe_call G_l_made (hr.mono (by decide)) (by rfl) T.g_l_made T.F_l_made.kp T.bd_l_made .nil pass0 (pa_cons (pe_fld (pv 0) rfl) (pa_cons (pe_fld (pv 0) rfl) (pa_cons (pe_slice sl_list (pv 2) (po_some pe_int) po_none) pa_nil)))))
      (pss_cons (ps_if (pt_cmpR (op_neD hr.units) (pe_call G_l_told (hr.mono (by decide)) (by rfl) T.g_l_told T.F_l_told.kp T.bd_l_told .nil pass0 (pa_cons (pv 0) (pa_cons (pv 4) pa_nil))) (pe_call G_l_told (hr.mono (by decide)) (by rfl) T.g_l_told T.F_l_told.kp T.bd_l_told .nil pass0 (pa_cons (pv 6) (pa_cons (pv 4) pa_nil))) (nomark _)) (pss_one (ps_ret pe_bl)) pss_nil)
      (pss_one (ps_ret (pe_and (pe_call G_l_again hr (by rfl) T.g_l_again T.F_l_again.kp T.bd_l_again .nil pass0 (pa_cons (pv 1) (pa_cons (pe_slice sl_list (pv 3) (po_some pe_int) po_none) (pa_cons (pv 4) pa_nil)))) (pe_one (pe_call G_l_again hr (by rfl) T.g_l_again T.F_l_again.kp T.bd_l_again .nil pass0 (pa_cons (pv 0) (pa_cons (pe_slice sl_list (pv 2) (po_some pe_int) po_none) (pa_cons (pv 4) pa_nil))))))))))))), ?_⟩
    have ok := R.ok hL
    have okM := R.ok hM
    have pl := pow_ge2 ok.w2 ok.h1
    have hAH : SqL K H a (xs.map V.int) := own_sub.seq hA
    apply both (I := fun H2 => ∃ F1, R.Lad H2 p wd h xs F1 ∧ Frame F F1 H H2)
    · intro cont
      by_cases hx : xs = []
      · subst hx
        refine ⟨_, rfl, _, rfl, p, p, wd, wd, h, h, [], [], F, F, rfl, hL, hL, (by decide), fun z => absurd z (by omega), fun _ _ ⟨y, m, _⟩ => absurd m List.not_mem_nil, fun _ => .inl rfl, fun _ _ _ H1 F1 l1 f1 => ⟨(by show 2 ≤ sizeLine; decide), fun z nz => ?_⟩⟩
        have tz := same_upd (o := .lst [.int 0, .int 2]) nz
        refine ⟨_, rfl, (by show 0 ≤ sizeLine; decide), fun z2 nz2 => ?_⟩
        have tz2 := same_upd (o := .lst []) nz2
        have hA1 : SqL K (upd (upd H1 z (.lst [.int 0, .int 2])) z2 (.lst [])) a (([] : List Int).map V.int) := (tz.trans tz2).seq (own_sub.seq (f1.uni.own.seq hA))
        refine neD_ints (ns := []) (ms := []) hA1 (SqL.of upd_same) rfl (.inr ⟨false, rfl, z, _, 0, _, rfl, rfl, SqL.of (tz2 _ _ upd_same), atI_nat (j := 0) rfl, rfl, _, rfl, iteNS rfl ?_⟩)
        exact cont _ ⟨F1, R.same l1 (tz.trans tz2), f1.trans (Frame.refl F1 (tz.trans tz2))⟩
      · obtain ⟨x0, rest, e0⟩ : ∃ x0 rest, xs = x0 :: rest := by
          cases xs with
          | nil => exact absurd rfl hx
          | cons x r => exact ⟨x, r, rfl⟩
        have m0 : x0 ∈ xs := by
          rw [e0]
          exact List.mem_cons_self
        refine ⟨_, rfl, _, rfl, p, p, wd, wd, h, h, xs, xs, F, F, rfl, hL, hL, by omega, fun z => absurd z (by omega), fun _ _ _ H1 t1 => ⟨(by show 2 ≤ sizeLine; decide), fun z nz => ?_⟩, fun d => absurd m0 (d _ m0), fun _ _ d => absurd m0 (d _ m0)⟩
        have tz := same_upd (o := .lst [.int 0, .int 2]) nz
        refine ⟨_, rfl, (by show 0 ≤ sizeLine; decide), fun z2 nz2 => ?_⟩
        have tz2 := same_upd (o := .lst []) nz2
        have u3 := (t1.trans tz).trans tz2
        have eF : PyData.eqv (dI xs) (dI []) = false := by
          rw [eqv_dI]
          exact decide_eq_false hx
        refine neD_no (dp_ints (u3.seq hAH)) (dp_ints (ns := []) (SqL.of upd_same)) (shaped_ints xs) (shaped_ints []) eF (.inr ⟨true, rfl, z, _, 1, _, rfl, rfl, SqL.of (tz2 _ _ upd_same), atI_nat (j := 1) rfl, rfl, _, rfl, iteNS rfl ?_⟩)
        exact cont _ ⟨F, R.same hL u3, Frame.refl F u3⟩
    rintro H1 ⟨F1, l1, f1⟩
    dsimp only [tNext]
    have m1 := f1.lad hM ap
    have fr1 := f1.uni (X := F2)
    show Evl.tCut _ _ _ [nR p, nR q, nR a, nR r, nR s, none, none] _
    -- deeds on the ladder
    refine ⟨fun σ H' => ∃ F', R.Lad H' p wd h (xs.drop 1) F' ∧ Frame F1 F' H1 H' ∧ σ = [nR p, nR q, nR a, nR r, nR s, none, none], ?_, ?_⟩
    · have hA1 : SqL K H1 a (xs.map V.int) := own_sub.seq (fr1.own.seq hA)
      dsimp only [gName]
      refine Evl.s_when (b := !decide (xs = [])) (Evl.et_test (Evl.ev_opL (Evl.ev_var rfl) (Evl.el_lst Evl.ea_nil (by decide)) fun p H3 hp e3 => rv_neI (ms := []) (Evl.ex_l e3 hA1) (SqL.of hp))) (fun hb H2 t2 => ?_) (fun hb H2 t2 => ?_)
      · have hx : xs ≠ [] := by
          rw [Bool.not_eq_true', decide_eq_false_iff_not] at hb
          exact hb
        have lp : 0 < xs.length := List.length_pos_iff.mpr hx
        have l2 := R.same l1 t2
        have g2 : Frame F1 F1 H1 H2 := Frame.refl F1 t2
        have last : atI (xs.map V.int) (-1) = some (.int (xs.getD (xs.length - 1) 0)) := by
          obtain ⟨ini, z, e⟩ : ∃ ini z, xs = ini ++ [z] := ⟨_, _, (List.dropLast_concat_getLast hx).symm⟩
          rw [e, List.map_append]
          have e2 : (ini ++ [z]).getD ((ini ++ [z]).length - 1) 0 = z := by
            rw [List.getD_eq_getElem?_getD, List.length_append]
            simp
          rw [e2]
          exact atI_last _ _
        have ml := mem_at (xs := xs) (k := xs.length - 1) (by omega)
        have m0 := mem_at (xs := xs) (k := 0) lp
        generalize xs.getD (xs.length - 1) 0 = z at last ml
        obtain ⟨d2, e2, hp2, _, _, _, _, hm2⟩ := R.ins l2
        have z0 := ok.lo _ ml
        have z1 := ok.hi _ ml
        have y0 := ok.lo _ m0
        have y1 := ok.hi _ m0
        have A2 : SqL K H2 a (xs.map V.int) := own_sub.seq (((fr1.trans g2.uni).own).seq hA)
        refine ⟨_, rfl, p, d2, e2, rfl, hp2, hm2 _ (by decide +kernel), _, rfl, 1, rfl, a, _, -1, _, rfl, rfl, A2, last, p, wd, h, xs, F1, _, z, rfl, view_out l2, by omega, fun x => absurd x (by omega), fun _ _ x => absurd ml x, fun _ H3 G3 F3 r3 us3 v3 s3 _ _ _ => ?_⟩
        have g3 := g2.trans (frame_view v3 s3)
        have l3 := v3.lad
        obtain ⟨d3, e3, hp3, _, _, _, _, hm3⟩ := R.ins l3
        have A3 : SqL K H3 a (xs.map V.int) := own_sub.seq (((fr1.trans g3.uni).own).seq hA)
        have k3 := remR_len z xs
        refine ⟨_, rfl, p, d3, e3, rfl, hp3, hm3 _ (by decide +kernel), _, rfl, 1, rfl, a, _, -1, _, rfl, rfl, A3, last, p, wd, h, _, F3, _, z, rfl, view_out l3, by omega, fun x => absurd x (by omega), fun m => absurd rfl (mem_remR.mp m).2, fun _ _ _ H4 G4 F4 r4 us4 v4 s4 _ _ _ => ?_⟩
        have g4 := g3.trans (frame_view v4 s4)
        have l4 := v4.lad
        rw [insR_rem ok.rise ml] at l4
        obtain ⟨d4, e4, hp4, _, _, _, _, hm4⟩ := R.ins l4
        have A4 : SqL K H4 a (xs.map V.int) := own_sub.seq (((fr1.trans g4.uni).own).seq hA)
        refine ⟨_, rfl, p, d4, e4, rfl, hp4, hm4 _ (by decide +kernel), _, rfl, a, _, 0, _, rfl, rfl, A4, atI_nat (j := 0) (map_at lp), p, wd, h, xs, F4, _, _, rfl, view_out l4, by omega, fun x => absurd x (by omega), fun _ _ x => absurd m0 x, fun _ H5 G5 F5 r5 us5 v5 s5 _ _ _ => ?_⟩
        have l5 := v5.lad
        rw [remR_head ok.rise lp] at l5
        exact ⟨F5, l5, g4.trans (frame_view v5 s5), rfl⟩
      · have hx : xs = [] := by
          rw [Bool.not_eq_false', decide_eq_true_iff] at hb
          exact hb
        refine ⟨F1, ?_, Frame.refl F1 t2, rfl⟩
        rw [hx]
        rw [hx] at l1
        exact R.same l1 t2
    rintro σ H2 ⟨F3, l2, f2, rfl⟩
    have m2 := f2.lad m1.1 m1.2
    have fr2 := fr1.trans f2.uni
    clear l1 m1 f1 f2 fr1
    -- deeds on the part
    refine ⟨fun σ H' => ∃ F' y5, R.Lad H' q wd h (ys.drop 1) F' ∧ R.Lad H' p wd h (xs.drop 1) F3 ∧ (∀ b, F3 b → ¬ F' b) ∧ Frame (uni F3 F2) (uni F3 F') H2 H' ∧ σ = [nR p, nR q, nR a, nR r, nR s, y5, none], ?_, ?_⟩
    · have hR2 : SqL K H2 r (ys.map V.int) := own_sub.seq (fr2.own.seq hR)
      refine Evl.s_when (b := !decide (ys = [])) (Evl.et_test (Evl.ev_opL (Evl.ev_var rfl) (Evl.el_lst Evl.ea_nil (by decide)) fun p H3 hp e3 => rv_neI (ms := []) (Evl.ex_l e3 hR2) (SqL.of hp))) (fun hb H4 t4' => ?_) (fun hb H4 t4' => ?_)
      · have hy : ys ≠ [] := by
          rw [Bool.not_eq_true', decide_eq_false_iff_not] at hb
          exact hb
        have lp : 0 < ys.length := List.length_pos_iff.mpr hy
        have t4 : Same H2 H4 := t4'
        have l4 := R.same l2 t4
        have n4 := R.same m2.1 t4
        have R4 := t4.seq hR2
        obtain ⟨d4, e4, hp4, hw4, hh4, _, _, _⟩ := R.ins l4
        refine ⟨_, rfl, p, _, d4, e4, _, rfl, hp4, T.cl_Ladder, T.n_Ladder_width, hw4, _, rfl, p, _, d4, e4, _, rfl, hp4, T.cl_Ladder, T.n_Ladder_high, hh4, _, rfl, r, wd, h, ys, rfl, R4, okM, by omega, fun H5 f5 F5 l5 t5 out5 => ?_⟩
        dsimp only [gName]
        have n5 := R.same n4 t5
        have g5 := R.same l4 t5
        have ap5 : ∀ b, F2 b → ¬ F5 b := fun b x y => by
          obtain ⟨o, e⟩ := R.there n4 b x
          rw [out5 b y] at e
          cases e
        have ap53 : ∀ b, F3 b → ¬ F5 b := fun b x y => by
          obtain ⟨o, e⟩ := R.there l4 b x
          rw [out5 b y] at e
          cases e
        have m0 := mem_at (xs := ys) (k := 0) lp
        have y0 := okM.lo _ m0
        have y1 := okM.hi _ m0
        have R5 := t5.seq R4
        obtain ⟨d5, e5, hp5, _, _, _, _, hm5⟩ := R.ins n5
        refine ⟨_, rfl, q, d5, e5, rfl, hp5, hm5 _ (by decide +kernel), _, rfl, r, _, 0, _, rfl, rfl, R5, atI_nat (j := 0) (map_at lp), q, wd, h, ys, F2, _, _, rfl, view_out n5, by omega, fun x => absurd x (by omega), fun _ _ x => absurd m0 x, fun _ H6 G6 F6 r6 us6 v6 s6 nr6 er6 dd6 => ?_⟩
        have f6 := frame_view v6 s6
        have dat6 := deed_data (PR.bagOf l5) ap5 v6 s6 nr6 er6 chs_flat dd6
        have l6 := f6.lad l5 ap5
        have g6 := f6.lad g5 fun b x y => m2.2 b y x
        have rB : SqL K H6 r (ys.map V.int) := by
          have fr6 := (fr2.trans (Frame.refl (uni F3 F2) (t4.trans t5))).trans f6.uniR
          exact own_sub.seq (fr6.own.seq hR)
        obtain ⟨d6, e6, hp6, _, _, _, _, hm6⟩ := R.ins l6.1
        refine ⟨_, rfl, f5, d6, e6, rfl, hp6, hm6 _ (by decide +kernel), _, rfl, r, _, 0, _, rfl, rfl, rB, atI_nat (j := 0) (map_at lp), f5, wd, h, ys, F5, _, _, rfl, view_out l6.1, by omega, fun x => absurd x (by omega), fun _ _ x => absurd m0 x, fun _ H7 G7 F7 r7 us7 v7 s7 _ er7 dd7 => ?_⟩
        have f7 := frame_view v7 s7
        refine neD_same ((dat6.same f7.own).same own_sub).dp (Dh.lst (v7.sub _ _ er7) (dd7.same v7.sub)).dp (shaped_chTake wd h ys _) ⟨false, rfl, iteF ?_⟩
        have l7 := v6.lad
        rw [remR_head okM.rise lp] at l7
        have n7 := f7.lad l7 fun b x y => l6.2 b y x
        have g7 := f7.lad g6.1 fun b x y => ap53 b y x
        refine ⟨F6, _, n7.1, g7.1, fun b x y => g6.2 b y x, fun b o nb e => ?_, rfl⟩
        have z4 := (t4.trans t5) _ _ e
        have z6 := f6.uniR (X := F3) b o nb z4
        have nF5 : ¬ F5 b := fun y => by
          have z := out5 b y
          rw [t4 _ _ e] at z
          cases z
        exact ⟨(f7 b o nF5 z6.1).1, z6.2⟩
      · have hy : ys = [] := by
          rw [Bool.not_eq_false', decide_eq_true_iff] at hb
          exact hb
        refine ⟨F2, none, ?_, R.same l2 t4', m2.2, Frame.refl (uni F3 F2) t4', rfl⟩
        have z := R.same m2.1 t4'
        rw [hy] at z ⊢
        exact z
    rintro σ H3 ⟨F4, y5, m3, l3, ap3, f3, rfl⟩
    have fr3 := fr2.trans f3
    have hA3 : SqL K H3 a (xs.map V.int) := own_sub.seq (fr3.own.seq hA)
    have hR3 : SqL K H3 r (ys.map V.int) := own_sub.seq (fr3.own.seq hR)
    have hS3 : SqL K H3 s ([s0, s1, s2].map V.int) := own_sub.seq (fr3.own.seq hS)
    have hSo : SqL K (outF (uni F3 F4) H3) s ([s0, s1, s2].map V.int) := fr3.own.seq hS
    have okl := R.ok l3
    have kx : (xs.drop 1).length ≤ 60 := by
      rw [List.length_drop]
      omega
    have ky : (ys.drop 1).length ≤ 60 := by
      rw [List.length_drop]
      omega
    have ex : cutV (xs.map V.int) (some 1) none = (xs.drop 1).map V.int := cut_drop xs 1
    have ey : cutV (ys.map V.int) (some 1) none = (ys.drop 1).map V.int := cut_drop ys 1
    obtain ⟨d3, e3, hp3, hw3, hh3, _, _, _⟩ := R.ins l3
    refine ⟨_, rfl, p, _, d3, e3, _, rfl, hp3, T.cl_Ladder, T.n_Ladder_width, hw3, _, rfl, p, _, d3, e3, _, rfl, hp3, T.cl_Ladder, T.n_Ladder_high, hh3, _, rfl, 1, rfl, a, _, rfl, hA3, fun c nc => ?_⟩
    rw [ex]
    have tc := same_upd (o := .lst ((xs.drop 1).map V.int)) nc
    refine ⟨c, wd, h, _, rfl, SqL.of upd_same, okl, by omega, fun H5 f5 F5 l5 t5 out5 => ?_⟩
    dsimp only [gName]
    have u5 := tc.trans t5
    have g5 := R.same l3 u5
    refine ⟨_, rfl, _, rfl, p, s, wd, h, _, F3, F3, s0, s1, s2, rfl, g5, fun _ h => h, PR.bagOf g5, u5.seq hS3, a0, a1, b0, b1, by omega, fun H6 r6 t6 d6 => ?_⟩
    have l6 := R.same l5 t6
    refine ⟨_, rfl, _, rfl, f5, s, wd, h, _, F5, F5, s0, s1, s2, rfl, l6, fun _ h => h, PR.bagOf l6, (u5.trans t6).seq hS3, a0, a1, b0, b1, by omega, fun H7 r7 t7 d7 => ?_⟩
    refine told_ne (d6.same (Frame.refl F3 t7).own) d7 ⟨false, rfl, iteF ?_⟩
    have u7 := (u5.trans t6).trans t7
    have m7 := R.same m3 u7
    have l7 := R.same l3 u7
    -- the part, and the ladder, once more
    refine ⟨_, rfl, _, rfl, 1, rfl, r, _, rfl, u7.seq hR3, fun c8 nc8 => ?_⟩
    rw [ey]
    have t8 := same_upd (o := .lst ((ys.drop 1).map V.int)) nc8
    have c8F : ¬ F4 c8 := (PR.bagOf m7).fresh nc8
    have frS : Frame (uni F3 F4) F4 H3 (upd H7 c8 (.lst ((ys.drop 1).map V.int))) := (Frame.refl (uni F3 F4) (u7.trans t8)).trans (Frame.less fun b h => .inr h)
    refine ⟨_, rfl, q, c8, s, wd, h, _, F4, s0, s1, s2, rfl, R.same m7 t8, SqL.of (by rw [outF_out c8F]; exact upd_same), frS.own.seq hSo, a0, a1, b0, b1, ky, fun H9 F9 f9 => ⟨true, rfl, ?_⟩⟩
    have l9 := f9.lad (R.same l7 t8) fun b x y => ap3 b y x
    have hA9 : SqL K H9 a (xs.map V.int) := by
      have z : SqL K (outF (uni F3 F4) H3) a (xs.map V.int) := fr3.own.seq hA
      exact own_sub.seq ((((Frame.refl (uni F3 F4) (u7.trans t8)).trans f9.uniR).own).seq z)
    refine ⟨_, rfl, _, rfl, 1, rfl, a, _, rfl, hA9, fun c10 nc10 => ?_⟩
    rw [ex]
    have t10 := same_upd (o := .lst ((xs.drop 1).map V.int)) nc10
    have c10F : ¬ F3 c10 := (PR.bagOf l9.1).fresh nc10
    have frT : Frame (uni F3 F4) F3 H3 (upd H9 c10 (.lst ((xs.drop 1).map V.int))) := (((Frame.refl (uni F3 F4) (u7.trans t8)).trans f9.uniR).trans (Frame.less fun b h => .inl h)).trans (Frame.refl F3 t10)
    exact ⟨_, rfl, p, c10, s, wd, h, _, F3, s0, s1, s2, rfl, R.same l9.1 t10, SqL.of (by rw [outF_out c10F]; exact upd_same), frT.own.seq hSo, a0, a1, b0, b1, kx, fun H11 F11 f11 => fin H11⟩
theorem ok_l_cut (T : Txt K mg) (R : Rep K T.c_Ladder) (PR : Prog P w K mg base T R) : FnOk P w K mg base CX0 25 T.f_l_cut T.fd_l_cut ["_law_ladder", "_law_row", "_law_at", "_law_spot"] (sp_l_cut T R) := by
  have G_l_told : FnOk P w K mg base CX0 21 T.f_l_told T.fd_l_told ["_law_ladder", "_law_spot"] (sp_l_told T R) := ok_l_told T R PR
  have G_l_made : FnOk P w K mg base CX0 22 T.f_l_made T.fd_l_made ["_law_width", "_law_high", "_law_row"] (sp_l_made T R) := ok_l_made T R PR
  have G_cut := PR.cut_
  have G_ladder_init := PR.init
  have G_l_goes_on : FnOk P w K mg base CX0 24 T.f_l_goes_on T.fd_l_goes_on ["_law_ladder", "_law_part", "_law_row", "_law_rest", "_law_spot"] (sp_l_goes_on T R) := ok_l_goes_on T R PR
  have G_ladder_put := PR.put
  have G_ladder_take := PR.take
  have G_l_by_turns : FnOk P w K mg base CX0 23 T.f_l_by_turns T.fd_l_by_turns ["_law_ladder", "_law_row", "_law_whole", "_law_spot"] (sp_l_by_turns T R) := ok_l_by_turns T R PR
  have G_l_woven : FnOk P w K mg base CX0 23 T.f_l_woven T.fd_l_woven ["_law_row", "_law_whole", "_law_size", "_law_spot"] (sp_l_woven T R) := ok_l_woven T R PR
  have G_poured := PR.poured
  have G_l_refused : FnOk P w K mg base CX0 21 T.f_l_refused T.fd_l_refused ["_law_ladder", "_law_other"] (sp_l_refused T R) := ok_l_refused T R PR
  have G_ladder_row := PR.row
  have G_l_half : FnOk P w K mg base CX0 23 T.f_l_half T.fd_l_half ["_law_ladder", "_law_row", "_law_spot"] (sp_l_half T R) := ok_l_half T R PR
  have G_l_mated : FnOk P w K mg base CX0 23 T.f_l_mated T.fd_l_mated ["_law_other", "_law_own"] (sp_l_mated T R) := ok_l_mated T R PR
  refine T.F_l_cut.ok sc_l_cut (fun vs H Q E h => ?_) (fun cdv A outer s H vs Q E hr h => ?_)
  · obtain ⟨p, a, s, wd, h, xs, F, k, s0, s1, s2, rfl, _⟩ := h
    rfl
  · obtain ⟨p, a, s, wd, h, xs, F, k, s0, s1, s2, rfl, hL, hA, hS, k0, k1, a0, a1, b0, b1, hlen, fin⟩ := h
    refine ⟨_, (pss_cons (ps_set (i := 4) sc_l_cut.nd rfl (.inl rfl) (pe_fld (pv 0) rfl))
      (pss_cons (ps_set (i := 5) sc_l_cut.nd rfl (.inl rfl) (pe_fld (pv 0) rfl))
      (pss_cons (ps_set (i := 6) sc_l_cut.nd rfl (.inl rfl) (pe_call G_l_told (hr.mono (by decide)) (by rfl) T.g_l_told T.F_l_told.kp T.bd_l_told .nil pass0 (pa_cons (pv 0) (pa_cons (pv 3) pa_nil))))
      (pss_cons (ps_if (PW.pt (pw_or (pt_not (pt_val (pe_call G_l_by_turns (hr.mono (by decide)) (by rfl) T.g_l_by_turns T.F_l_by_turns.kp T.bd_l_by_turns .nil pass0 (pa_cons (pv 0) (pa_cons (pv 1) (pa_cons (pv 6) (pa_cons (pv 3) pa_nil))))))) (pw_or1 (pt_not (pt_val (pe_call G_l_woven (hr.mono (by decide)) (by rfl) T.g_l_woven T.F_l_woven.kp T.bd_l_woven .nil pass0 (pa_cons (pv 1) (pa_cons (pv 6) (pa_cons (pe_lst (pa_cons (pv 4) (pa_cons (pv 5) pa_nil))) (pa_cons (pv 3) pa_nil)))))))))) (pss_one (ps_ret pe_bl)) pss_nil)
      (pss_cons (ps_setLc (i := 8) (own := [("_law_number_here", 7)]) (g := gName 7) (by rfl) sc_l_cut.nd rfl rfl (sw_true rfl rfl rfl (by decide +kernel)) (pi_list (pv 1)) (blkOk_by (own := [("_law_number_here", 7)]) (N := ["_law_ladder", "_law_row", "_law_at", "_law_spot", "_law_width", "_law_high", "_law_whole", "_law_number_here", "_law_rest", "_law_left", "_law_part", "_law_due", "_law_other", "_law_own"]) (sc := defScope s_l_cut) (by decide +kernel)) (fun _ _ _ _ _ => (pg_name (i := 7) sc_l_cut.nd rfl (Or.inl rfl))) (fun _ _ _ _ _ => (pts_one (pt_cmpR op_ge (pv 7) (pv 2) (nomark _)))) (fun _ _ _ _ _ => (pv 7)))
      (pss_cons (ps_set (i := 9) sc_l_cut.nd rfl (.inl rfl) (pe_call G_l_made (hr.mono (by decide)) (by rfl) T.g_l_made T.F_l_made.kp T.bd_l_made .nil pass0 (pa_cons (pv 4) (pa_cons (pv 5) (pa_cons (pe_lc (own := [("_law_number_here", 7)]) (g := gName 7) (by rfl) sc_l_cut.nd (pi_list (pv 1)) (blkOk_by (own := [("_law_number_here", 7)]) (N := ["_law_ladder", "_law_row", "_law_at", "_law_spot", "_law_width", "_law_high", "_law_whole", "_law_number_here", "_law_rest", "_law_left", "_law_part", "_law_due", "_law_other", "_law_own"]) (sc := defScope s_l_cut) (by decide +kernel)) (fun _ _ _ _ _ => (pg_name (i := 7) sc_l_cut.nd rfl (Or.inl rfl))) (fun _ _ _ _ _ => (pts_one (pt_cmpR op_lt (pv 7) (pv 2) (nomark _)))) (fun _ _ _ _ _ => (pv 7))) pa_nil)))))
      (pss_cons (ps_set (i := 10) sc_l_cut.nd rfl (.inl rfl) (pe_call G_cut (hr.mono (by decide)) (by rfl) T.g_cut T.F_cut.kp T.bd_cut .nil passL (pa_cons (pv 0) (pa_cons (pv 2) pa_nil))))
      (pss_cons (ps_set (i := 11) sc_l_cut.nd rfl (.inl rfl) (pe_call G_l_told (hr.mono (by decide)) (by rfl) T.g_l_told T.F_l_told.kp T.bd_l_told .nil pass0 (pa_cons (pe_call G_l_made (hr.mono (by decide)) (by rfl) T.g_l_made T.F_l_made.kp T.bd_l_made .nil pass0 (pa_cons (pv 4) (pa_cons (pv 5) (pa_cons (pv 8) pa_nil)))) (pa_cons (pv 3) pa_nil))))
      (pss_cons (ps_if (PW.pt (pw_or (pt_cmpR (op_neD hr.units) (pe_call G_l_told (hr.mono (by decide)) (by rfl) T.g_l_told T.F_l_told.kp T.bd_l_told .nil pass0 (pa_cons (pv 10) (pa_cons (pv 3) pa_nil))) (pv 11) (nomark _)) (pw_or1 (pt_cmpR (op_neD hr.units) (pe_call G_l_told (hr.mono (by decide)) (by rfl) T.g_l_told T.F_l_told.kp T.bd_l_told .nil pass0 (pa_cons (pv 0) (pa_cons (pv 3) pa_nil))) (pe_call G_l_told (hr.mono (by decide)) (by rfl) T.g_l_told T.F_l_told.kp T.bd_l_told .nil pass0 (pa_cons (pv 9) (pa_cons (pv 3) pa_nil))) (nomark _))))) (pss_one (ps_ret pe_bl)) pss_nil)
      (pss_cons (ps_if (PW.pt (pw_or (pt_cmpR op_notN (pe_call G_poured (hr.mono (by decide)) (by rfl) T.g_poured T.F_poured.kp T.bd_poured .nil passL (pa_cons (pv 0) (pa_cons (pv 10) pa_nil))) pe_non (nomark _)) (pw_or (pt_cmpR (op_neD hr.units) (pe_call G_l_told (hr.mono (by decide)) (by rfl) T.g_l_told T.F_l_told.kp T.bd_l_told .nil pass0 (pa_cons (pv 0) (pa_cons (pv 3) pa_nil))) (pv 6) (nomark _)) (pw_or1 (pt_cmpR (op_neD hr.units) (pe_call G_l_told (hr.mono (by decide)) (by rfl) T.g_l_told T.F_l_told.kp T.bd_l_told .nil pass0 (pa_cons (pv 10) (pa_cons (pv 3) pa_nil))) (pv 11) (nomark _)))))) (pss_one (ps_ret pe_bl)) pss_nil)
      (pss_cons (ps_if (PW.pt (pw_and (pt_cmpR (op_neD hr.units) (pv 8) (pe_lst pa_nil) (nomark _)) (pw_and1 (pt_cmpR op_ne (pe_call G_l_refused (hr.mono (by decide)) (by rfl) T.g_l_refused T.F_l_refused.kp T.bd_l_refused .nil pass0 (pa_cons (pv 0) (pa_cons (pv 10) pa_nil))) pe_int (nomark _))))) (pss_one (ps_ret pe_bl)) pss_nil)
      (pss_cons (ps_set (i := 12) sc_l_cut.nd rfl (.inr rfl) (pe_make T.mk_Ladder G_ladder_init (hr.mono (by decide)) (by rfl) T.x_Ladder T.bd_ladder_init .nil passL (pa_cons (pv 4) (pa_cons (pe_op op_add (pe_op op_mod (pv 5) pe_int) pe_int) pa_nil))))
      (Evl.pss_cut (ps_if (PW.pt (pw_and (pt_cmpR op_lt (pv 4) pe_int (nomark _)) (pw_and1 (pt_cmpR op_eq (pe_op op_mod (pv 5) pe_int) pe_int (nomark _))))) (pss_one (ps_set (i := 12) sc_l_cut.nd rfl (.inr rfl) (pe_make T.mk_Ladder G_ladder_init (hr.mono (by decide)) (by rfl) T.x_Ladder T.bd_ladder_init .nil passL (pa_cons (pe_op op_mul (pv 4) (pv 4)) (pa_cons (pe_op op_fdivW (pv 5) pe_int) pa_nil))))) pss_nil)
      (pss_cons (ps_setLc (i := 13) (own := [("_law_number_here", 7)]) (g := gName 7) (by rfl) sc_l_cut.nd rfl rfl (sw_true rfl rfl rfl (by decide +kernel)) (pi_list (pe_slice sl_list (pv 8) po_none (po_some pe_int))) (blkOk_by (own := [("_law_number_here", 7)]) (N := ["_law_ladder", "_law_row", "_law_at", "_law_spot", "_law_width", "_law_high", "_law_whole", "_law_number_here", "_law_rest", "_law_left", "_law_part", "_law_due", "_law_other", "_law_own"]) (sc := defScope s_l_cut) (by decide +kernel)) (fun _ _ _ _ _ => (pg_name (i := 7) sc_l_cut.nd rfl (Or.inl rfl))) (fun _ _ _ _ _ => (pts_one (pt_cmpR op_lt (pv 7) (show PE _ _ (tFld K _ _) from (pe_fld (pv 12) rfl)) (nomark _)))) (fun _ _ _ _ _ => (pv 7)))
      (pss_cons (ps_for PassesOwn.never rfl (pi_list (pv 13)) (pg_name (i := 7) sc_l_cut.nd rfl (.inl rfl)) (pss_one (ps_expr (pe_meth (pv 12) T.cl_Ladder T.m_ladder_put G_ladder_put (hr.mono (by decide)) T.bd_ladder_put .nil passL (pa_cons (pv 7) pa_nil)))))
      (pss_cons (ps_if (PW.pt (pw_or (pt_cmpR op_ne (pe_call G_l_refused (hr.mono (by decide)) (by rfl) T.g_l_refused T.F_l_refused.kp T.bd_l_refused .nil pass0 (pa_cons (pv 12) (pa_cons (pv 10) pa_nil))) pe_int (nomark _)) (pw_or (pt_cmpR (op_neD hr.units) (pe_meth0 (pv 12) T.cl_Ladder T.m_ladder_row G_ladder_row (hr.mono (by decide)) T.bd_ladder_row .nil pass0) (pv 13) (nomark _)) (pw_or1 (pt_cmpR op_ne (pe_call G_l_refused (hr.mono (by decide)) (by rfl) T.g_l_refused T.F_l_refused.kp T.bd_l_refused .nil pass0 (pa_cons (pe_make T.mk_Ladder G_ladder_init (hr.mono (by decide)) (by rfl) T.x_Ladder T.bd_ladder_init .nil passL (pa_cons (pe_op op_add (pe_op op_mod (pv 4) pe_int) pe_int) (pa_cons (pv 5) pa_nil))) (pa_cons (pv 10) pa_nil))) pe_int (nomark _)))))) (pss_one (ps_ret pe_bl)) pss_nil)
      (pss_cons (ps_if (PW.pt (pw_or (pt_not (pt_val (pe_call G_l_half (hr.mono (by decide)) (by rfl) T.g_l_half T.F_l_half.kp T.bd_l_half .nil pass0 (pa_cons (pv 0) (pa_cons (pv 1) (pa_cons (pv 3) pa_nil)))))) (pw_or1 (pt_not (pt_val (pe_call G_l_mated (hr.mono (by decide)) (by rfl) T.g_l_mated T.F_l_mated.kp T.bd_l_mated .nil pass0 (pa_cons (pv 12) (pa_cons (pv 13) pa_nil)))))))) (pss_one (ps_ret pe_bl)) pss_nil)
      (pss_cons (ps_if (PW.pt (pw_or (pt_cmpR (op_neD hr.units) (pe_call G_l_told (hr.mono (by decide)) (by rfl) T.g_l_told T.F_l_told.kp T.bd_l_told .nil pass0 (pa_cons (pv 0) (pa_cons (pv 3) pa_nil))) (pv 6) (nomark _)) (pw_or1 (pt_cmpR (op_neD hr.units) (pe_call G_l_told (hr.mono (by decide)) (by rfl) T.g_l_told T.F_l_told.kp T.bd_l_told .nil pass0 (pa_cons (pv 10) (pa_cons (pv 3) pa_nil))) (pv 11) (nomark _))))) (pss_one (ps_ret pe_bl)) pss_nil)
      (pss_cons (ps_for PassesOwn.never rfl (pi_list (pv 8)) (pg_name (i := 7) sc_l_cut.nd rfl (.inl rfl)) (pss_one (ps_expr (pe_meth (pv 0) T.cl_Ladder T.m_ladder_take G_ladder_take (hr.mono (by decide)) T.bd_ladder_take .nil passL (pa_cons (pv 7) pa_nil)))))
      (pss_cons (ps_if (PW.pt (pw_or (pt_cmpR op_ne (pe_call G_l_refused (hr.mono (by decide)) (by rfl) T.g_l_refused T.F_l_refused.kp T.bd_l_refused .nil pass0 (pa_cons (pv 0) (pa_cons (pv 10) pa_nil))) pe_int (nomark _)) (pw_or (pt_cmpR (op_neD hr.units) (pe_call G_l_told (hr.mono (by decide)) (by rfl) T.g_l_told T.F_l_told.kp T.bd_l_told .nil pass0 (pa_cons (pv 0) (pa_cons (pv 3) pa_nil))) (pv 6) (nomark _)) (pw_or1 (pt_cmpR (op_neD hr.units) (pe_call G_l_told (hr.mono (by decide)) (by rfl) T.g_l_told T.F_l_told.kp T.bd_l_told .nil pass0 (pa_cons (pv 10) (pa_cons (pv 3) pa_nil))) (pv 11) (nomark _)))))) (pss_one (ps_ret pe_bl)) pss_nil)
      (pss_one (ps_ret (pe_call G_l_goes_on hr (by rfl) T.g_l_goes_on T.F_l_goes_on.kp T.bd_l_goes_on .nil pass0 (pa_cons (pv 0) (pa_cons (pv 10) (pa_cons (pv 1) (pa_cons (pv 8) (pa_cons (pv 3) pa_nil)))))))))))))))))))))))))))), ?_⟩
    obtain ⟨dx, fs, hp, hwidth, hhigh, hlimit, hmany, hm⟩ := R.ins hL
    have ok := R.ok hL
    have pl := pow_ge2 ok.w2 ok.h1
    have w2 := ok.w2
    have w9 := ok.w9
    have h1 := ok.h1
    have h12 := ok.h12
    refine ⟨_, rfl, p, _, dx, fs, _, rfl, hp, T.cl_Ladder, T.n_Ladder_width, hwidth, ?_⟩
    dsimp only [gName]
    refine ⟨_, rfl, p, _, dx, fs, _, rfl, hp, T.cl_Ladder, T.n_Ladder_high, hhigh, ?_⟩
    dsimp only [gName]
    refine ⟨_, rfl, _, rfl, p, s, wd, h, xs, F, F, s0, s1, s2, rfl, hL, fun _ h => h, PR.bagOf hL, own_sub.seq hS, a0, a1, b0, b1, by omega, fun H1 r0 t1 d1 => ?_⟩
    dsimp only [gName]
    have g1 := Frame.refl F t1
    refine ⟨_, rfl, _, rfl, _, rfl, _, rfl, p, a, r0, s, wd, h, xs, F, s0, s1, s2, rfl, R.same hL t1, g1.own _ _ hA, d1, g1.own.seq hS, a0, a1, b0, b1, hlen, fun H2 F2 l2 f2 => ⟨true, rfl, iteF ?_⟩⟩
    have g2 := g1.trans f2
    have d2 := d1.same f2.own
    have hA2 := g2.own _ _ hA
    have hS2 : SqL K (outF F2 H2) s ([s0, s1, s2].map V.int) := g2.own.seq hS
    clear g1 g2 f2 d1 t1 hA hS hp hwidth hhigh hlimit hmany hm
    refine ⟨_, rfl, _, rfl, _, rfl, _, rfl, (by show 2 ≤ sizeLine; decide), fun z nz => ⟨_, rfl, ?_⟩⟩
    have tz := same_upd (o := .lst [.int wd, .int (h : Int)]) nz
    refine ⟨a, r0, z, s, wd, h, xs, s0, s1, s2, rfl, SqL.of (tz _ _ (own_sub _ _ hA2)), (d2.same own_sub).same tz, SqL.of upd_same, tz.seq (own_sub.seq hS2), ok, a0, a1, b0, b1, hlen, fun H3 t3 => ⟨true, rfl, iteF ?_⟩⟩
    have u3 := tz.trans t3
    have hA3 := own_sub _ _ ((Frame.refl F2 u3).own _ _ hA2)
    have l3 := R.same l2 u3
    have f3 := Frame.refl F2 u3
    -- the rest
    refine Evl.q_asgL (xs := (xs.filter fun x => decide (k ≤ x)).map V.int) (el_fil (fun x => decide (k ≤ x)) (Evl.ev_var rfl) (SqL.of hA3) (by omega) (fun _ => rfl) (fun x _ H3 e3 => Evl.et_test (Evl.ev_op (Evl.ev_var rfl) (Evl.ev_var rfl) Evl.rv_I0)) (fun x _ H3 e3 _ => Evl.ev_var rfl)) fun c H4 nc t4' hc => ?_
    have t4 : Same H3 H4 := t4'
    have l4 := R.same l3 t4
    have f4 := f3.trans (Frame.refl F2 t4)
    have cF : ¬ F2 c := (PR.bagOf l3).fresh nc
    have hc4 : outF F2 H4 c = some (.lst ((xs.filter fun x => decide (k ≤ x)).map V.int)) := by rw [outF_out cF]; exact hc
    have hA4 := t4 _ _ hA3
    have okr : RowOk wd h (xs.filter fun x => decide (k ≤ x)) := ok.sub List.filter_sublist
    have okl : RowOk wd h (xs.filter fun x => decide (x < k)) := ok.sub List.filter_sublist
    have kr : (xs.filter fun x => decide (k ≤ x)).length ≤ 60 := Nat.le_trans (List.length_filter_le _ _) hlen
    have kl : (xs.filter fun x => decide (x < k)).length ≤ 60 := Nat.le_trans (List.length_filter_le _ _) hlen
    obtain ⟨cp, cdis⟩ := cut_pour ok.rise k
    have lessC := less_cut xs k
    have mr : ∀ x ∈ (xs.filter fun x => decide (k ≤ x)), x ∈ xs := fun x hx => (List.mem_filter.mp hx).1
    show tSeq _ _ _ [nR p, nR a, nI k, nR s, nI wd, nI (h : Int), nR r0, none, nR c, none, none, none, none, none] _
    -- what is left, made anew
    refine ⟨_, rfl, _, rfl, ?_⟩
    refine evL_use (xs := (xs.filter fun x => decide (x < k)).map V.int) (el_fil (fun x => decide (x < k)) (Evl.ev_var rfl) (SqL.of hA4) (by omega) (fun _ => rfl) (fun x _ H3 e3 => Evl.et_test (Evl.ev_op (Evl.ev_var rfl) (Evl.ev_var rfl) Evl.rv_I0)) (fun x _ H3 e3 _ => Evl.ev_var rfl)) fun c5 H5 nc5 t5 hc5 => ?_
    refine ⟨c5, wd, h, _, rfl, SqL.of hc5, okl, by omega, fun H6 lf Fl ll t6 outl => ?_⟩
    have u6 : Same H4 H6 := Same.trans t5 t6
    have l6 := R.same l4 u6
    have f6 := f4.trans (Frame.refl F2 u6)
    have apl : ∀ b, F2 b → ¬ Fl b := fun b x y => by
      obtain ⟨o, e⟩ := R.there (R.same l4 t5) b x
      rw [outl b y] at e
      cases e
    have hc6 := (Frame.refl F2 u6).own _ _ hc4
    dsimp only [gName]
    -- the cut
    refine ⟨_, rfl, _, rfl, p, wd, h, xs, F2, k, rfl, l6, by omega, fun z => absurd z (by omega), fun _ _ H7 F3 q7 F4 l7 m7 fr7 nF4 ap7 => ?_⟩
    have B7 := fr7.cut nF4
    have f7 := f6.trans B7
    have hA7 := f7.own _ _ hA2
    have hS7 : SqL K (outF (uni F3 F4) H7) s ([s0, s1, s2].map V.int) := f7.own.seq hS2
    have d7 := d2.same f7.own
    have hc7 := B7.own _ _ hc6
    have ll7 := (fr7.lad ll apl).1
    clear hc6 hc4 cF l6 l4 l3 f3 f4 f6 f7 hA4 hA3 hA2 hS2 d2
    revert l7 m7 okr okl kr kl cp cdis lessC mr hc7 ll7
    generalize (xs.filter fun x => decide (k ≤ x)) = x2
    generalize (xs.filter fun x => decide (x < k)) = x1
    intro okr okl kr kl cp cdis lessC mr l7 m7 hc7 ll7
    dsimp only [gName]
    -- what is due
    refine ⟨_, rfl, _, rfl, _, rfl, c, wd, h, x2, rfl, SqL.of (own_sub _ _ hc7), okr, by omega, fun H8 y8 F8 l8 t8 out8 => ?_⟩
    refine ⟨_, rfl, y8, s, wd, h, x2, F8, uni (uni F3 F4) F8, s0, s1, s2, rfl, l8, fun _ h => .inr h, ((PR.bagOf (R.same l7 t8)).uni (PR.bagOf (R.same m7 t8))).uni (PR.bagOf l8), t8.seq (own_sub.seq hS7), a0, a1, b0, b1, by omega, fun H9 rd t9 d9' => ?_⟩
    have d9 : Dh (outF (uni F3 F4) H9) (.ref rd) (.list (toldD wd h x2 s0 s1 s2)) := d9'.same (Frame.less fun b h => .inl h).own
    have u9 := t8.trans t9
    have B9 := Frame.refl (uni F3 F4) u9
    have hA9 := B9.own _ _ hA7
    have hS9 : SqL K (outF (uni F3 F4) H9) s ([s0, s1, s2].map V.int) := B9.own.seq hS7
    have dw9 := d7.same B9.own
    have hc9 := B9.own _ _ hc7
    have l9 := R.same l7 u9
    have m9 := R.same m7 u9
    have ll9 := R.same ll7 u9
    clear hA7 hS7 d7 hc7 l7 m7 ll7 d9' B9 u9
    dsimp only [gName]
    show tSeq _ _ _ [nR p, nR a, nI k, nR s, nI wd, nI (h : Int), nR r0, none, nR c, nR lf, nR q7, nR rd, none, none] _
    refine ⟨_, rfl, _, rfl, q7, s, wd, h, x2, F4, F4, s0, s1, s2, rfl, m9, fun _ h => h, PR.bagOf m9, own_sub.seq hS9, a0, a1, b0, b1, by omega, fun H10 r10 t10 d10 => ⟨_, rfl, ?_⟩⟩
    have B10 := Frame.refl (uni F3 F4) t10
    refine told_ne d10 (d9.same B10.own) ⟨false, rfl, iteF ?_⟩
    have l10 := R.same l9 t10
    have m10 := R.same m9 t10
    refine ⟨_, rfl, _, rfl, p, s, wd, h, x1, F3, F3, s0, s1, s2, rfl, l10, fun _ h => h, PR.bagOf l10, t10.seq (own_sub.seq hS9), a0, a1, b0, b1, by omega, fun H11 r11 t11 d11 => ?_⟩
    have ll11 := R.same (R.same ll9 t10) t11
    refine ⟨_, rfl, _, rfl, lf, s, wd, h, x1, Fl, Fl, s0, s1, s2, rfl, ll11, fun _ h => h, PR.bagOf ll11, (t10.trans t11).seq (own_sub.seq hS9), a0, a1, b0, b1, by omega, fun H12 r12 t12 d12 => ?_⟩
    refine told_ne (d11.same (Frame.refl F3 t12).own) d12 ⟨false, rfl, iteF ?_⟩
    have u12 := (t10.trans t11).trans t12
    -- poured back
    have l12 := R.same l9 u12
    have m12 := R.same m9 u12
    refine ⟨_, rfl, _, rfl, p, q7, wd, wd, h, h, x1, x2, F3, F4, rfl, l12, m12, by omega, fun z => absurd z (by omega), fun _ _ ⟨x, m1, m2⟩ => absurd m2 (cdis x m1), fun _ => .inr ap7, fun _ _ _ H13 F5 l13 f13 => ⟨rfl, _, rfl, iteNS rfl ?_⟩⟩
    rw [cp] at l13
    have m13 := f13.lad m12 ap7
    have B13 := (Frame.refl (uni F3 F4) u12).trans (f13.uni (X := F4))
    have hA13 := B13.own _ _ hA9
    have hS13 : SqL K (outF (uni F5 F4) H13) s ([s0, s1, s2].map V.int) := B13.own.seq hS9
    have dw13 := dw9.same B13.own
    have dd13 := d9.same B13.own
    have hc13 := B13.own _ _ hc9
    clear hA9 hS9 dw9 d9 hc9 l9 m9 ll9 l10 m10 l12 m12 B13 B10 d10 d11 d12 ll11
    -- told twice
    have twice : ∀ {H0 : Hp} {D : Ends} {σ : L2.St} {Fp : Addr → Prop} {N : Hp → Prop}, True := trivial
    refine ⟨_, rfl, _, rfl, p, s, wd, h, xs, F5, F5, s0, s1, s2, rfl, l13, fun _ h => h, PR.bagOf l13, own_sub.seq hS13, a0, a1, b0, b1, by omega, fun H14 r14 t14 d14 => ⟨_, rfl, ?_⟩⟩
    refine told_ne d14 (dw13.same (Frame.refl _ t14).own) ⟨false, rfl, iteF ?_⟩
    have m14 := R.same m13.1 t14
    refine ⟨_, rfl, _, rfl, q7, s, wd, h, x2, F4, F4, s0, s1, s2, rfl, m14, fun _ h => h, PR.bagOf m14, t14.seq (own_sub.seq hS13), a0, a1, b0, b1, by omega, fun H15 r15 t15 d15 => ⟨_, rfl, ?_⟩⟩
    refine told_ne d15 (dd13.same (Frame.refl _ (t14.trans t15)).own) ⟨false, rfl, iteF ?_⟩
    have u15 := t14.trans t15
    have l15 := R.same l13 u15
    have m15 := R.same m13.1 u15
    -- refused while it is there
    refine Evl.q_when (b := false) (Evl.et_is (Evl.et_and (b := false) (Evl.et_test (Evl.ev_opL (Evl.ev_var rfl) (Evl.el_lst Evl.ea_nil (by decide)) fun p H3 hp e3 => rv_neI (ns := x2) (ms := []) (Evl.ex_l e3 (SqL.of (u15 _ _ (own_sub _ _ hc13)))) (SqL.of hp))) fun hb => Evl.et_is (Evl.et_test (Evl.ev_op (Evl.ev_call (vs := [.ref p, .ref q7]) (z := .int 2) (Evl.ea_cons (Evl.ev_var rfl) (Evl.ea_cons (Evl.ev_var rfl) Evl.ea_nil)) fun H8 e8 Q8 q8 E8 => ?_) Evl.ev_c (Evl.rv_ne rfl))) (by decide)) (by cases (!decide (x2 = [])) <;> rfl)) (fun hb => nomatch hb) (fun _ H16 t16' => ?_)
    · have hx : x2 ≠ [] := by
        rw [Bool.not_eq_true', decide_eq_false_iff_not] at hb
        exact hb
      obtain ⟨y, hy⟩ : ∃ y, y ∈ x2 := List.exists_mem_of_ne_nil _ hx
      exact ⟨p, q7, wd, wd, h, h, xs, x2, F5, F4, rfl, R.same l15 e8, R.same m15 e8, by omega, fun z => absurd z (by omega), fun _ _ _ H9 s9 => q8 H9 s9, fun d => absurd (mr y hy) (d y hy), fun _ _ d => absurd (mr y hy) (d y hy)⟩
    have t16 : Same H15 H16 := t16'
    have u16 := u15.trans t16
    have B16 := Frame.refl (uni F5 F4) u16
    have l16 := R.same l13 u16
    have m16 := R.same m13.1 u16
    have hA16 := B16.own _ _ hA13
    have hS16 : SqL K (outF (uni F5 F4) H16) s ([s0, s1, s2].map V.int) := B16.own.seq hS13
    have dw16 := dw13.same B16.own
    have dd16 := dd13.same B16.own
    have hc16 := B16.own _ _ hc13
    have ap16 := m13.2
    clear hA13 hS13 dw13 dd13 hc13 l13 m13 l15 m15 m14 B16 twice d14 d15 B7 apl outl nF4 ap7 f13 fr7
    -- another ladder, of another size
    have hz12 : (0 : Int) < 12 := by decide
    refine ⟨_, rfl, _, rfl, _, _, rfl, rfl, hz12, _, _, rfl, rfl, fun y dy ny ndy ne => ⟨H16, y, dy, wd, (h : Int) % 12 + 1, rfl, rfl, ny, ndy, ne, fun z => absurd z (by omega), fun l el _ _ _ _ H17 Fy ly t17 out17 => ⟨rfl, ?_⟩⟩⟩
    dsimp only [gName]
    show Evl.tCut _ _ _ [nR p, nR a, nI k, nR s, nI wd, nI (h : Int), nR r0, none, nR c, nR lf, nR q7, nR rd, nR y, none] _
    refine ⟨fun σ H' => ∃ (o : Addr) (wo : Int) (ho : Nat) (Fo : Addr → Prop), R.Lad H' o wo ho [] Fo ∧ Same H16 H' ∧ (∀ b, Fo b → H16 b = none) ∧ (wo ≠ wd ∨ ho ≠ h) ∧ σ = [nR p, nR a, nI k, nR s, nI wd, nI (h : Int), nR r0, none, nR c, nR lf, nR q7, nR rd, nR o, none], ?_, ?_⟩
    · refine Evl.s_when (b := decide (wd < 4) && decide (V.int ((h : Int) % 2) = V.int 0)) (Evl.et_and (Evl.et_test (Evl.ev_op (Evl.ev_var rfl) Evl.ev_c Evl.rv_I0)) fun _ => Evl.et_test (Evl.ev_op (Evl.ev_op (Evl.ev_var rfl) Evl.ev_c (Evl.rv_I (by show (0 : Int) < 2; decide))) Evl.ev_c (Evl.rv_eq rfl))) (fun hb H18 t18 => ?_) (fun hb H18 t18 => ⟨y, wd, l, Fy, R.same ly t18, Same.trans t17 t18, out17, .inr (by omega), rfl⟩)
      rw [Bool.and_eq_true, decide_eq_true_iff, decide_eq_true_iff] at hb
      have e2 : (h : Int) % 2 = 0 := V.int.inj hb.2
      have w4 : wd * wd = 4 ∨ wd * wd = 9 := by
        rcases (show wd = 2 ∨ wd = 3 by omega) with e | e
        · rw [e]; exact .inl rfl
        · rw [e]; exact .inr rfl
      have ne4 : wd * wd ≠ wd := by
        rcases (show wd = 2 ∨ wd = 3 by omega) with e | e <;> (rw [e]; decide)
      have lo4 : -(2 ^ 64) < wd ∧ wd < 2 ^ 64 := ⟨by omega, by omega⟩
      generalize hww : wd * wd = ww at w4 ne4
      refine ⟨_, rfl, _, rfl, _, _, rfl, rfl, .inl lo4, _, rfl, _, _, rfl, rfl, ⟨by decide, by decide⟩, fun y2 dy2 ny2 ndy2 ne2 => ⟨H18, y2, dy2, ww, (h : Int) / 2, ?_, rfl, ny2, ndy2, ne2, fun z => absurd z (by omega), fun l2 el2 _ _ _ _ H19 Fo lo t19 out19 => ⟨rfl, y2, ww, l2, Fo, lo, Same.trans (Same.trans t17 t18) t19, fun b f => Same.free (Same.trans t17 t18) (out19 b f), .inl ne4, rfl⟩⟩⟩
      rw [← hww]
      rfl
    rintro σ H17 ⟨o, wo, ho, Fo, lo, t17, out17, nsz, rfl⟩
    have oko := R.ok lo
    -- what it keeps
    have hc17 := t17 _ _ (own_sub _ _ hc16)
    refine ⟨_, rfl, 1, rfl, c, _, rfl, SqL.of hc17, fun c1 nc1 => ?_⟩
    rw [show cutV (x2.map V.int) none (some 1) = (x2.take 1).map V.int from cut_take x2 1]
    have tc1 := same_upd (o := .lst ((x2.take 1).map V.int)) nc1
    have lt1 := List.length_take_le 1 x2
    have okt : RowOk wd h (x2.take 1) := okr.sub (List.take_sublist _ _)
    refine ⟨c1, rfl, ⟨_, SqL.of upd_same⟩, fun D nD => ?_⟩
    have ec1 : (upd H17 c1 (.lst ((x2.take 1).map V.int))) c1 = some (.lst ((x2.take 1).map V.int)) := upd_same
    have lo1 := R.same lo tc1
    have t18 := t17.trans tc1
    revert ec1 lo1 t18 okt lt1 nD
    generalize upd H17 c1 (.lst ((x2.take 1).map V.int)) = H18
    generalize x2.take 1 = y1
    intro lt1 okt nD ec1 lo1 t18
    obtain ⟨do1, fo1, hpo1, _, _, hlo1, _, _⟩ := R.ins lo1
    refine lc_list (K := K) (a := c1) (xs := y1.map V.int) (fun i H' => Same H18 H' ∧ H' D = some (.lst (((y1.take i).filter fun x => decide (x < wo ^ ho)).map V.int))) ⟨same_upd nD, upd_same⟩ (fun i H' _ hh => SqL.of (hh.1 _ _ ec1)) (fun i x H' hi hh => ?_) (fun H19 hh => ?_)
    · obtain ⟨il, rfl, _⟩ := int_at hi
      obtain ⟨sH, hD⟩ := hh
      have ex := take_next (fun x => decide (x < wo ^ ho)) il
      generalize y1.getD i 0 = n at ex
      refine ⟨rfl, ?_⟩
      refine evT_use (b := decide (n < wo ^ ho)) (Evl.et_test (Evl.ev_op (Evl.ev_var rfl) (ev_fld (Evl.ev_var rfl) (sH _ _ hpo1) T.cl_Ladder T.n_Ladder_limit hlo1) Evl.rv_I0)) fun H2 s2 => ?_
      by_cases c : decide (n < wo ^ ho) = true
      · rw [if_pos c]
        rw [if_pos c] at ex
        refine ⟨_, rfl, _, s2 _ _ hD, ?_, same_mut (sH.trans s2) nD, ?_⟩
        · rw [List.length_map]
          have := List.length_filter_le (fun x => decide (x < wo ^ ho)) (y1.take i)
          have := List.length_take_le i y1
          exact small1000 (by omega)
        · rw [upd_same, ex, List.map_append]
          rfl
      · rw [if_neg c]
        rw [if_neg c, List.append_nil] at ex
        exact ⟨sH.trans s2, by rw [ex]; exact s2 _ _ hD⟩
    obtain ⟨sH, hD⟩ := hh
    rw [List.length_map, List.take_length] at hD
    have lzl := List.length_filter_le (fun x => decide (x < wo ^ ho)) y1
    have zr : (y1.filter fun x => decide (x < wo ^ ho)).Pairwise (· < ·) := okt.rise.filter _
    have zlo : ∀ x ∈ (y1.filter fun x => decide (x < wo ^ ho)), 0 ≤ x ∧ x < wo ^ ho := fun x hx => ⟨okt.lo x (List.mem_filter.mp hx).1, of_decide_eq_true (List.mem_filter.mp hx).2⟩
    revert hD lzl zr zlo
    generalize (y1.filter fun x => decide (x < wo ^ ho)) = zs
    intro hD lzl zr zlo
    have t19 := t18.trans sH
    have lo19 := R.same lo1 sH
    have DF : ¬ Fo D := (PR.bagOf lo1).fresh nD
    dsimp only [gName]
    refine ⟨_, rfl, D, rfl, ⟨_, SqL.of hD⟩, for_list (K := K) (a := D) (xs := zs.map V.int) (fun i σ H' => ∃ F', R.Lad H' o wo ho (zs.take i) F' ∧ Frame Fo F' H19 H' ∧ ∃ y7, σ = [nR p, nR a, nI k, nR s, nI wd, nI (h : Int), nR r0, y7, nR c, nR lf, nR q7, nR rd, nR o, nR D]) ⟨Fo, lo19, Frame.refl Fo (Same.refl _), none, rfl⟩ (fun i σ H' _ hh => ?_) ?_ ?_⟩
    · obtain ⟨F', _, fr, _⟩ := hh
      exact SqL.of (fr D _ DF hD).1
    · rintro i x σ H' hi ⟨F', hl, fr, y7, rfl⟩
      obtain ⟨il, rfl, mx⟩ := int_at hi
      have rt := rise_take zr il
      obtain ⟨n0, n1⟩ := zlo _ mx
      have nin : zs.getD i 0 ∉ zs.take i := nodup_at (rise_nodup zr) il
      have ltk := List.length_take_le i zs
      obtain ⟨d2, e2, hp2, _, _, _, _, hm2⟩ := R.ins hl
      dsimp only [gName]
      refine ⟨_, rfl, o, d2, e2, rfl, hp2, hm2 _ (by decide +kernel), _, rfl, o, wo, ho, _, F', _, _, rfl, view_out hl, by omega, fun z => absurd z (by omega), fun z => absurd z nin, fun _ _ _ H3 G3 F3 r3 us3 v3 s3 _ _ _ => ?_⟩
      have l3 := v3.lad
      rw [rt] at l3
      exact ⟨F3, l3, fr.trans (frame_view v3 s3), _, rfl⟩
    rintro σ H20 ⟨Fo2, lo20, fr20, y7, rfl⟩
    rw [List.length_map, List.take_length] at lo20
    have D20 := fr20 D _ DF hD
    obtain ⟨t20, out20⟩ := fr20.fresh t19 out17
    clear lo19 fr20 t19 t18 lo1 hpo1 hlo1 sH hD DF ec1 nD tc1 nc1 hc17 lo t17 out17
    -- sizes
    have l20 := R.same l16 t20
    have m20 := R.same m16 t20
    have apo : ∀ b, Fo2 b → ¬ F4 b := fun b x y => by
      obtain ⟨u, e⟩ := R.there m16 b y
      rw [out20 b x] at e
      cases e
    have bad : ∀ {A : Prop}, wo = wd → ho = h → A := fun e1 e2 => by
      rcases nsz with z | z
      · exact absurd e1 z
      · exact absurd e2 z
    refine ⟨_, rfl, _, rfl, o, q7, wo, wd, ho, h, zs, x2, Fo2, F4, rfl, lo20, m20, by omega, fun _ H21 t21 => ⟨rfl, _, rfl, iteNS rfl ?_⟩, fun e1 e2 => bad e1 e2, fun _ => .inr apo, fun e1 e2 => bad e1 e2⟩
    have lo21 := R.same lo20 t21
    obtain ⟨d21, e21, hp21, _, _, _, _, hm21⟩ := R.ins lo21
    refine ⟨_, rfl, o, d21, e21, rfl, hp21, hm21 _ (by decide +kernel), o, wo, ho, zs, Fo2, rfl, lo21, by omega, fun H22 r22 t22 n22 e22 => ⟨_, rfl, ?_⟩⟩
    refine neD_ints (SqL.of e22) (SqL.of (t22 _ _ (t21 _ _ D20.1))) rfl ⟨false, rfl, iteF ?_⟩
    have u22 := t21.trans t22
    refine ⟨_, rfl, _, _, rfl, rfl, (by show (0 : Int) < 8; decide), _, _, rfl, rfl, _, rfl, fun y3 dy3 ny3 ndy3 ne3 => ⟨H22, y3, dy3, wd % 8 + 2, (h : Int), rfl, rfl, ny3, ndy3, ne3, fun z => absurd z (by omega), fun l3 el3 _ _ _ _ H23 F23 l23 t23 out23 => ⟨rfl, _, rfl, ?_⟩⟩⟩
    have u23 := u22.trans t23
    have ap23 : ∀ b, F23 b → ¬ F4 b := fun b x y => by
      obtain ⟨u, e⟩ := R.there (R.same m20 u22) b y
      rw [out23 b x] at e
      cases e
    have bad2 : ∀ {A : Prop}, wd % 8 + 2 = wd → A := fun e => absurd e (by omega)
    refine ⟨y3, q7, wd % 8 + 2, wd, l3, h, [], x2, F23, F4, rfl, l23, R.same m20 u23, by show 0 + x2.length ≤ 150; omega, fun _ H24 t24 => ⟨rfl, _, rfl, iteNS rfl ?_⟩, fun e1 _ => bad2 e1, fun _ => .inr ap23, fun e1 _ => bad2 e1⟩
    have u24 := u23.trans t24
    have v24 := t20.trans u24
    -- half, mated
    refine ⟨_, rfl, _, rfl, _, rfl, p, a, s, wd, h, xs, F5, s0, s1, s2, rfl, R.same l16 v24, SqL.of (v24 _ _ (own_sub _ _ hA16)), v24.seq (own_sub.seq hS16), a0, a1, b0, b1, hlen, fun H25 t25 => ⟨true, rfl, iteF ?_⟩⟩
    have u25 := u24.trans t25
    refine ⟨_, rfl, _, rfl, o, D, wo, ho, zs, Fo2, rfl, R.same lo20 u25, (Frame.refl Fo2 u25).own _ _ (by rw [outF_out D20.2]; exact D20.1), by omega, fun H26 F26 fr26 => ⟨true, rfl, iteF ?_⟩⟩
    obtain ⟨t26, _⟩ := fr26.fresh (t20.trans u25) out20
    clear u22 u23 u24 u25 t20 t21 t22 t23 t24 t25 v24 e22 l20 m20 lo20 lo21 hp21 hm21 l23 fr26 D20 out20 out23 apo ap23
    have B26 := Frame.refl (uni F5 F4) t26
    have hA26 := B26.own _ _ hA16
    have hS26 : SqL K (outF (uni F5 F4) H26) s ([s0, s1, s2].map V.int) := B26.own.seq hS16
    have dw26 := dw16.same B26.own
    have dd26 := dd16.same B26.own
    have hc26 := B26.own _ _ hc16
    have l26 := R.same l16 t26
    have m26 := R.same m16 t26
    clear B26 hA16 hS16 dw16 dd16 hc16 l16 m16 t26
    refine ⟨_, rfl, _, rfl, p, s, wd, h, xs, F5, F5, s0, s1, s2, rfl, l26, fun _ h => h, PR.bagOf l26, own_sub.seq hS26, a0, a1, b0, b1, by omega, fun H27 r27 t27 d27 => ⟨_, rfl, ?_⟩⟩
    refine told_ne d27 (dw26.same (Frame.refl _ t27).own) ⟨false, rfl, iteF ?_⟩
    have m27 := R.same m26 t27
    refine ⟨_, rfl, _, rfl, q7, s, wd, h, x2, F4, F4, s0, s1, s2, rfl, m27, fun _ h => h, PR.bagOf m27, t27.seq (own_sub.seq hS26), a0, a1, b0, b1, by omega, fun H28 r28 t28 d28 => ⟨_, rfl, ?_⟩⟩
    have u28 := t27.trans t28
    refine told_ne d28 (dd26.same (Frame.refl _ u28).own) ⟨false, rfl, iteF ?_⟩
    have B28 := Frame.refl (uni F5 F4) u28
    have hA28 := B28.own _ _ hA26
    have hS28 : SqL K (outF (uni F5 F4) H28) s ([s0, s1, s2].map V.int) := B28.own.seq hS26
    have dw28 := dw26.same B28.own
    have dd28 := dd26.same B28.own
    have hc28 := B28.own _ _ hc26
    have l28 := R.same l26 u28
    have m28 := R.same m26 u28
    clear B28 hA26 hS26 dw26 dd26 hc26 l26 m26 m27 u28 t27 t28 d27 d28
    -- taken out
    refine ⟨_, rfl, c, rfl, ⟨_, SqL.of (own_sub _ _ hc28)⟩, for_list (K := K) (a := c) (xs := x2.map V.int) (fun i σ H' => ∃ F', R.Lad H' p wd h (lessL (x2.take i) xs) F' ∧ Frame F5 F' H28 H' ∧ ∃ y7, σ = [nR p, nR a, nI k, nR s, nI wd, nI (h : Int), nR r0, y7, nR c, nR lf, nR q7, nR rd, nR o, nR D]) ⟨F5, by rw [show x2.take 0 = [] from rfl, less_nil]; exact l28, Frame.refl F5 (Same.refl _), _, rfl⟩ (fun i σ H' _ hh => ?_) ?_ ?_⟩
    · obtain ⟨F', _, fr, _⟩ := hh
      exact SqL.of (own_sub _ _ ((fr.uni (X := F4)).own _ _ hc28))
    · rintro i x σ H' hi ⟨F', hl, fr, y8, rfl⟩
      obtain ⟨il, rfl, mx⟩ := int_at hi
      have nx := less_next (xs := xs) il
      have n0 := okr.lo _ mx
      have n1 := okr.hi _ mx
      have nin : x2.getD i 0 ∈ lessL (x2.take i) xs := List.mem_filter.mpr ⟨mr _ mx, by
        rw [Bool.not_eq_true', decide_eq_false_iff_not]
        exact nodup_at (rise_nodup okr.rise) il⟩
      have ltk : (lessL (x2.take i) xs).length ≤ 60 := Nat.le_trans (List.length_filter_le _ _) hlen
      obtain ⟨d2, e2, hp2, _, _, _, _, hm2⟩ := R.ins hl
      dsimp only [gName]
      refine ⟨_, rfl, p, d2, e2, rfl, hp2, hm2 _ (by decide +kernel), _, rfl, p, wd, h, _, F', _, _, rfl, view_out hl, by omega, fun z => absurd z (by omega), fun _ _ z => absurd nin z, fun _ H3 G3 F3 r3 us3 v3 s3 _ _ _ => ?_⟩
      have l3 := v3.lad
      rw [nx] at l3
      exact ⟨F3, l3, fr.trans (frame_view v3 s3), _, rfl⟩
    rintro σ H29 ⟨F29, l29, fr29, y9, rfl⟩
    rw [List.length_map, List.take_length, lessC] at l29
    have m29 := fr29.lad m28 ap16
    have B29 := fr29.uni (X := F4)
    -- poured once more
    refine ⟨_, rfl, _, rfl, p, q7, wd, wd, h, h, x1, x2, F29, F4, rfl, l29, m29.1, by omega, fun z => absurd z (by omega), fun _ _ ⟨x, m1, m2⟩ => absurd m2 (cdis x m1), fun _ => .inr m29.2, fun _ _ _ H30 F30 l30 f30 => ⟨rfl, _, rfl, iteNS rfl ?_⟩⟩
    rw [cp] at l30
    have m30 := f30.lad m29.1 m29.2
    have B30 := B29.trans (f30.uni (X := F4))
    have hS30 : SqL K (outF (uni F30 F4) H30) s ([s0, s1, s2].map V.int) := B30.own.seq hS28
    refine ⟨_, rfl, _, rfl, p, s, wd, h, xs, F30, F30, s0, s1, s2, rfl, l30, fun _ h => h, PR.bagOf l30, own_sub.seq hS30, a0, a1, b0, b1, by omega, fun H31 r31 t31 d31 => ⟨_, rfl, ?_⟩⟩
    refine told_ne d31 ((dw28.same B30.own).same (Frame.refl _ t31).own) ⟨false, rfl, iteF ?_⟩
    have m31 := R.same m30.1 t31
    refine ⟨_, rfl, _, rfl, q7, s, wd, h, x2, F4, F4, s0, s1, s2, rfl, m31, fun _ h => h, PR.bagOf m31, t31.seq (own_sub.seq hS30), a0, a1, b0, b1, by omega, fun H32 r32 t32 d32 => ⟨_, rfl, ?_⟩⟩
    have u32 := t31.trans t32
    refine told_ne d32 ((dd28.same B30.own).same (Frame.refl _ u32).own) ⟨false, rfl, iteF ?_⟩
    have B32 := B30.trans (Frame.refl (uni F30 F4) u32)
    exact ⟨_, rfl, _, rfl, _, rfl, _, rfl, _, rfl, p, q7, a, c, s, wd, h, xs, x2, F30, F4, s0, s1, s2, rfl, R.same l30 u32, R.same m30.1 u32, m30.2, SqL.of (B32.own _ _ hA28), SqL.of (B32.own _ _ hc28), B32.own.seq hS28, a0, a1, b0, b1, hlen, kr, fin⟩
theorem ok_law {f : Addr} {fd : FuncData} (F : Fun K "law" "law" s_law f fd) (T : Txt K mg) (R : Rep K T.c_Ladder) (PR : Prog P w K mg base T R) : FnOk P w K mg base CX0 26 f fd ["_law_script"] (sp_law K) := by
  have G_ladder_init := PR.init
  have G_l_number : FnOk P w K mg base CX0 1 T.f_l_number T.fd_l_number ["_law_cell", "_law_limit"] (sp_l_number T R) := ok_l_number T R PR
  have G_l_cut : FnOk P w K mg base CX0 25 T.f_l_cut T.fd_l_cut ["_law_ladder", "_law_row", "_law_at", "_law_spot"] (sp_l_cut T R) := ok_l_cut T R PR
  have G_l_deed : FnOk P w K mg base CX0 21 T.f_l_deed T.fd_l_deed ["_law_ladder", "_law_row", "_law_cell", "_law_limit"] (sp_l_deed T R) := ok_l_deed T R PR
  have G_l_told : FnOk P w K mg base CX0 21 T.f_l_told T.fd_l_told ["_law_ladder", "_law_spot"] (sp_l_told T R) := ok_l_told T R PR
  have G_l_cell_at : FnOk P w K mg base CX0 1 T.f_l_cell_at T.fd_l_cell_at ["_law_script", "_law_k"] (sp_l_cell_at T R) := ok_l_cell_at T R PR
  have G_l_made : FnOk P w K mg base CX0 22 T.f_l_made T.fd_l_made ["_law_width", "_law_high", "_law_row"] (sp_l_made T R) := ok_l_made T R PR
  have G_l_refused_by_any : FnOk P w K mg base CX0 21 T.f_l_refused_by_any T.fd_l_refused_by_any ["_law_ladder", "_law_number_here"] (sp_l_refused_by_any T R) := ok_l_refused_by_any T R PR
  refine F.ok sc_law (fun vs H Q E h => ?_) (fun cdv A outer s H vs Q E hr h => ?_)
  · obtain ⟨a, ns, rfl, _⟩ := h
    rfl
  · obtain ⟨a, ns, rfl, hS, hlen, q⟩ := h
    refine ⟨_, (pss_cons (ps_set (i := 1) sc_law.nd rfl (.inl rfl) (pe_op op_add pe_int (pe_op op_mod (pe_call G_l_cell_at (hr.mono (by decide)) (by rfl) T.g_l_cell_at T.F_l_cell_at.kp T.bd_l_cell_at .nil pass0 (pa_cons (pv 0) (pa_cons pe_int pa_nil))) pe_int)))
      (pss_cons (ps_set (i := 2) sc_law.nd rfl (.inl rfl) (pe_op op_add pe_int (pe_op op_mod (pe_call G_l_cell_at (hr.mono (by decide)) (by rfl) T.g_l_cell_at T.F_l_cell_at.kp T.bd_l_cell_at .nil pass0 (pa_cons (pv 0) (pa_cons pe_int pa_nil))) pe_int)))
      (pss_cons (ps_set (i := 3) sc_law.nd rfl (.inl rfl) pe_int)
      (pss_cons (ps_for PassesOwn.never rfl (pi_range1 (by rfl) T.b_range (pa_cons (pv 2) pa_nil)) (pg_name (i := 4) sc_law.nd rfl (.inl rfl)) (pss_one (ps_set (i := 3) sc_law.nd rfl (.inl rfl) (pe_op op_mul (pv 3) (pv 1)))))
      (pss_cons (ps_set (i := 5) sc_law.nd rfl (.inl rfl) (pe_make T.mk_Ladder G_ladder_init (hr.mono (by decide)) (by rfl) T.x_Ladder T.bd_ladder_init .nil passL (pa_cons (pv 1) (pa_cons (pv 2) pa_nil))))
      (pss_cons (ps_set (i := 6) sc_law.nd rfl (.inl rfl) pe_dnewK)
      (pss_cons (ps_set (i := 7) sc_law.nd rfl (.inl rfl) (pe_slice sl_list (pv 0) (po_some pe_int) (po_some pe_int)))
      (Evl.pss_cut (ps_if (pt_cmpR op_eq (pe_op op_mod (pe_call G_l_cell_at (hr.mono (by decide)) (by rfl) T.g_l_cell_at T.F_l_cell_at.kp T.bd_l_cell_at .nil pass0 (pa_cons (pv 0) (pa_cons pe_int pa_nil))) pe_int) pe_int (nomark _)) (pss_one (ps_setLc (i := 7) (own := [("_law_k", 13)]) (g := gName 13) (by rfl) sc_law.nd rfl rfl (sw_true rfl rfl rfl (by decide +kernel)) (pi_range1 (by rfl) T.b_range (pa_cons pe_int pa_nil)) (blkOk_by (own := [("_law_k", 13)]) (N := ["_law_script", "_law_width", "_law_high", "_law_limit", "_law_turn", "_law_ladder", "_law_row", "_law_cells", "_law_cell", "_law_drawn", "_law_spot", "_law_far", "_law_at", "_law_k"]) (sc := defScope s_law) (by decide +kernel)) (fun _ _ _ _ _ => (pg_name (i := 13) sc_law.nd rfl (Or.inl rfl))) (fun _ _ _ _ _ => pts_nil) (fun _ _ _ _ _ => (pe_op op_mul pe_int (pe_op op_add (pe_op op_mul pe_int (pe_op op_add (pe_call G_l_cell_at (hr.mono (by decide)) (by rfl) T.g_l_cell_at T.F_l_cell_at.kp T.bd_l_cell_at .nil pass0 (pa_cons (pv 0) (pa_cons pe_int pa_nil))) (pe_op op_mul (pe_op op_mul pe_int (pv 13)) (pv 13)))) pe_int))))) pss_nil)
      (pss_cons (ps_for PassesOwn.never rfl (pi_list (pv 7)) (pg_name (i := 8) sc_law.nd rfl (.inl rfl)) (pss_one (ps_expr (pe_call G_l_deed (hr.mono (by decide)) (by rfl) T.g_l_deed T.F_l_deed.kp T.bd_l_deed .nil pass0 (pa_cons (pv 5) (pa_cons (pv 6) (pa_cons (pv 8) (pa_cons (pv 3) pa_nil))))))))
      (pss_cons (ps_set (i := 6) sc_law.nd rfl (.inl rfl) (pe_callB (call_sortedDA rfl) (by rfl) T.b_sorted (by decide +kernel) (pa_cons (pv 6) pa_nil)))
      (pss_cons (ps_set (i := 9) sc_law.nd rfl (.inl rfl) (pe_call G_l_number (hr.mono (by decide)) (by rfl) T.g_l_number T.F_l_number.kp T.bd_l_number .nil pass0 (pa_cons (pe_op op_fdivW (pe_call G_l_cell_at (hr.mono (by decide)) (by rfl) T.g_l_cell_at T.F_l_cell_at.kp T.bd_l_cell_at .nil pass0 (pa_cons (pv 0) (pa_cons pe_int pa_nil))) pe_int) (pa_cons (pv 3) pa_nil))))
      (pss_cons (ps_set (i := 10) sc_law.nd rfl (.inl rfl) (pe_lst (pa_cons (pe_op op_add (pe_op op_fdivW (pe_call G_l_cell_at (hr.mono (by decide)) (by rfl) T.g_l_cell_at T.F_l_cell_at.kp T.bd_l_cell_at .nil pass0 (pa_cons (pv 0) (pa_cons pe_int pa_nil))) pe_int) (pe_call G_l_cell_at (hr.mono (by decide)) (by rfl) T.g_l_cell_at T.F_l_cell_at.kp T.bd_l_cell_at .nil pass0 (pa_cons (pv 0) (pa_cons pe_int pa_nil)))) (pa_cons pe_int (pa_cons (pv 9) pa_nil)))))
      (Evl.pss_cut (ps_if (pt_cmpR (op_neD hr.units) (pv 6) (pe_lst pa_nil) (nomark _)) (pss_one (ps_asg (pe_ix ix_list (pv 6) (pe_op op_mod (pe_op op_fdivW (pe_call G_l_cell_at (hr.mono (by decide)) (by rfl) T.g_l_cell_at T.F_l_cell_at.kp T.bd_l_cell_at .nil pass0 (pa_cons (pv 0) (pa_cons pe_int pa_nil))) pe_int) (pe_callB call_len_seq (by rfl) T.b_len PySem.boot_len (pa_cons (pv 6) pa_nil))) (fun _ _ => rfl)) (pg_sub (pv 10) pe_int set_list))) pss_nil)
      (pss_cons (ps_if (pt_cmpR (op_neD hr.units) (pe_call G_l_told (hr.mono (by decide)) (by rfl) T.g_l_told T.F_l_told.kp T.bd_l_told .nil pass0 (pa_cons (pv 5) (pa_cons (pv 10) pa_nil))) (pe_call G_l_told (hr.mono (by decide)) (by rfl) T.g_l_told T.F_l_told.kp T.bd_l_told .nil pass0 (pa_cons (pe_call G_l_made (hr.mono (by decide)) (by rfl) T.g_l_made T.F_l_made.kp T.bd_l_made .nil pass0 (pa_cons (pv 1) (pa_cons (pv 2) (pa_cons (pv 6) pa_nil)))) (pa_cons (pv 10) pa_nil))) (nomark _)) (pss_one (ps_ret pe_bl)) pss_nil)
      (pss_cons (ps_set (i := 11) sc_law.nd rfl (.inl rfl) (pe_op op_mod (pe_call G_l_cell_at (hr.mono (by decide)) (by rfl) T.g_l_cell_at T.F_l_cell_at.kp T.bd_l_cell_at .nil pass0 (pa_cons (pv 0) (pa_cons pe_int pa_nil))) (pe_op op_pow pe_int pe_int)))
      (pss_cons (ps_if (PW.pt (pw_or (pt_not (pt_val (pe_call G_l_refused_by_any (hr.mono (by decide)) (by rfl) T.g_l_refused_by_any T.F_l_refused_by_any.kp T.bd_l_refused_by_any .nil pass0 (pa_cons (pv 5) (pa_cons (pe_op op_sub (pe_un un_neg pe_int) (pv 11)) pa_nil))))) (pw_or1 (pt_not (pt_val (pe_call G_l_refused_by_any (hr.mono (by decide)) (by rfl) T.g_l_refused_by_any T.F_l_refused_by_any.kp T.bd_l_refused_by_any .nil pass0 (pa_cons (pv 5) (pa_cons (pe_op op_add (pe_op op_add (pv 3) pe_int) (pv 11)) pa_nil)))))))) (pss_one (ps_ret pe_bl)) pss_nil)
      (pss_cons (ps_set (i := 12) sc_law.nd rfl (.inl rfl) (pe_call G_l_number (hr.mono (by decide)) (by rfl) T.g_l_number T.F_l_number.kp T.bd_l_number .nil pass0 (pa_cons (pe_call G_l_cell_at (hr.mono (by decide)) (by rfl) T.g_l_cell_at T.F_l_cell_at.kp T.bd_l_cell_at .nil pass0 (pa_cons (pv 0) (pa_cons pe_int pa_nil))) (pa_cons (pe_op op_add (pv 3) pe_int) pa_nil))))
      (Evl.pss_cut (ps_if (PW.pt (pw_and (pt_cmpR op_eq (pe_op op_mod (pv 11) pe_int) pe_int (nomark _)) (pw_and1 (pt_cmpR (op_neD hr.units) (pv 6) (pe_lst pa_nil) (nomark _))))) (pss_one (ps_set (i := 12) sc_law.nd rfl (.inl rfl) (pe_ix ix_list (pv 6) (pe_op op_mod (pe_op op_fdivW (pv 11) pe_int) (pe_callB call_len_seq (by rfl) T.b_len PySem.boot_len (pa_cons (pv 6) pa_nil))) (fun _ _ => rfl)))) pss_nil)
      (pss_one (ps_ret (pe_call G_l_cut hr (by rfl) T.g_l_cut T.F_l_cut.kp T.bd_l_cut .nil pass0 (pa_cons (pv 5) (pa_cons (pv 6) (pa_cons (pv 12) (pa_cons (pv 10) pa_nil))))))))))))))))))))))))), ?_⟩
    obtain ⟨wd, ew, w1, w2⟩ : ∃ wd, 2 + cellOf ns 0 % 8 = wd ∧ 2 ≤ wd ∧ wd ≤ 9 := ⟨_, rfl, by omega, by omega⟩
    obtain ⟨h, eh, l1, l12⟩ : ∃ h : Nat, 1 + cellOf ns 1 % 12 = (h : Int) ∧ 1 ≤ h ∧ h ≤ 12 := ⟨(1 + cellOf ns 1 % 12).toNat, by omega, by omega, by omega⟩
    have pl := pow_ge2 w1 l1
    have pl12 := pow_le12 w1 w2 l12
    refine ⟨_, rfl, a, ns, 0, rfl, hS, _, _, rfl, rfl, (by show (0 : Int) < 8; decide), _, _, rfl, rfl, ?_⟩
    dsimp only [gName]
    show tSeq _ _ _ [nR a, nI (2 + cellOf ns 0 % 8), none, none, none, none, none, none, none, none, none, none, none, none] _
    rw [ew]
    refine ⟨_, rfl, a, ns, 1, rfl, hS, _, _, rfl, rfl, (by show (0 : Int) < 12; decide), _, _, rfl, rfl, ?_⟩
    dsimp only [gName]
    show tSeq _ _ _ [nR a, nI wd, nI (1 + cellOf ns 1 % 12), none, none, none, none, none, none, none, none, none, none, none] _
    rw [eh]
    refine ⟨_, rfl, (h : Int), rfl, by omega, by omega, for_range (lo := 0) (n := h) (fun i σ H' => H' = H ∧ ∃ y, σ = [nR a, nI wd, nI (h : Int), nI (wd ^ i), y, none, none, none, none, none, none, none, none, none]) ⟨rfl, none, by rw [Int.pow_zero]; rfl⟩ ?_ ?_⟩
    · rintro i σ H' hi ⟨rfl, y, rfl⟩
      refine ⟨_, rfl, _, rfl, _, _, rfl, rfl, .inr ⟨by omega, by omega⟩, rfl, nI (0 + (i : Int)), ?_⟩
      rw [Int.pow_succ]
      rfl
    rintro σ H1 ⟨rfl, y, rfl⟩
    refine ⟨_, rfl, _, rfl, fun p dx np ndx ne => ⟨H1, p, dx, wd, (h : Int), rfl, rfl, np, ndx, ne, fun z => absurd z (by omega), fun l2 el _ _ _ _ H2 F hL s2 out => ⟨rfl, ?_⟩⟩⟩
    obtain rfl : l2 = h := by omega
    have v0 : View R H1 H2 p wd l2 [] F := ⟨hL, s2, out⟩
    dsimp only [gName]
    refine fun d nd => ?_
    have v1 := v0.new (o := .dK []) nd
    have nd1 := v0.sub.free nd
    have t1 := same_upd (o := .dK []) nd1
    dsimp only [gName]
    obtain ⟨zs, ez, lz⟩ : ∃ zs : List Int, cutV (ns.map V.int) (some 3) (some 18) = zs.map V.int ∧ zs.length ≤ 24 := ⟨(ns.drop _).take _, by unfold cutV; rw [List.map_take, List.map_drop], by
      refine Nat.le_trans (List.length_take_le _ _) ?_
      have e3 : HT.sIx (ns.map V.int).length 0 (some 3) = min 3 (ns.map V.int).length := HT.sIx_nat _ _ 3
      have e18 : HT.sIx (ns.map V.int).length (ns.map V.int).length (some 18) = min 18 (ns.map V.int).length := HT.sIx_nat _ _ 18
      rw [e3, e18]
      omega⟩
    refine ⟨_, rfl, 3, rfl, 18, rfl, a, _, rfl, v1.sub.seq (t1.seq hS), fun c nc => ?_⟩
    rw [ez]
    have v2 := v1.new (o := .lst (zs.map V.int)) nc
    have nc1 := v1.sub.free nc
    have t2 := t1.trans (same_upd (o := .lst (zs.map V.int)) nc1)
    have cd : c ≠ d := fun e => by
      rw [e, upd_same] at nc1
      cases nc1
    have hd2 : (upd (upd H1 d (.dK [])) c (.lst (zs.map V.int))) d = some (.dK (dkv [])) := by
      rw [upd_ne (Ne.symm cd), upd_same]
      rfl
    have hc2 : (upd (upd H1 d (.dK [])) c (.lst (zs.map V.int))) c = some (.lst (zs.map V.int)) := upd_same
    revert v2 t2 hd2 hc2
    generalize (upd (upd H1 d (.dK [])) c (.lst (zs.map V.int))) = G2
    generalize (upd (upd H2 d (.dK [])) c (.lst (zs.map V.int))) = H3
    intro v2 t2 hd2 hc2
    dsimp only [gName]
    show Evl.tCut _ _ _ [nR a, nI wd, nI (l2 : Int), nI (wd ^ l2), y, nR p, nR d, nR c, none, none, none, none, none, none] _
    refine ⟨fun σ H' => ∃ (G' : Hp) (c : Addr) (zs : List Int), View R G' H' p wd l2 [] F ∧ Same H1 G' ∧ G' d = some (.dK (dkv [])) ∧ G' c = some (.lst (zs.map V.int)) ∧ c ≠ d ∧ zs.length ≤ 24 ∧ σ = [nR a, nI wd, nI (l2 : Int), nI (wd ^ l2), y, nR p, nR d, nR c, none, none, none, none, none, none], ?_, ?_⟩
    · have hA3 := v2.sub.seq (t2.seq hS)
      refine ⟨_, rfl, a, ns, 2, rfl, hA3, _, _, rfl, rfl, (by show (0 : Int) < 8; decide), rfl, _, rfl, ite2 (fun _ => ?_) (fun _ => ⟨G2, c, zs, v2, t2, hd2, hc2, cd, lz, rfl⟩)⟩
      refine ⟨24, rfl, by omega, by omega, fun D nD => ?_⟩
      refine lc_range (lo := 0) (n := 24) (fun i H' => ∃ us : List Int, Same H3 H' ∧ H' D = some (.lst (us.map V.int)) ∧ us.length = i) ⟨[], same_upd nD, upd_same, rfl⟩ (fun i H' hi hh => ?_) (fun H4 hh => ?_)
      · obtain ⟨us, sH, hD, ul⟩ := hh
        rw [Int.zero_add]
        refine ⟨rfl, ?_⟩
        dsimp only [tYes]
        rw [if_pos rfl]
        refine ⟨_, rfl, a, ns, 1, rfl, sH.seq hA3, _, rfl, _, _, rfl, rfl, .inl ⟨by decide, by decide⟩, _, rfl, _, _, rfl, rfl, .inl ⟨by omega, by omega⟩, _, _, rfl, rfl, _, _, rfl, rfl, .inl ⟨by decide, by decide⟩, _, _, rfl, rfl, _, _, rfl, rfl, .inl ⟨by decide, by decide⟩, us.map V.int, hD, ?_, us ++ [3 * (4 * (cellOf ns 1 + 17 * (i : Int) * (i : Int)) + 3)], same_mut sH nD, ?_, by rw [List.length_append, ul]; rfl⟩
        · rw [List.length_map]
          exact small1000 (by omega)
        · rw [upd_same, List.map_append]
          rfl
      obtain ⟨us, sH, hD, ul⟩ := hh
      have nDG := v2.sub.free nD
      have v3 := v2.keep sH nD hD
      have t3 := same_upd (o := .lst (us.map V.int)) nDG
      refine ⟨_, D, us, v3, t2.trans t3, t3 _ _ hd2, upd_same, fun e => ?_, by omega, rfl⟩
      rw [e, hd2] at nDG
      cases nDG
    rintro σ H4 ⟨G4, c, zs, v4, t4, hd4, hc4, cd, lz, rfl⟩
    clear v2 t2 hd2 hc2 v1 t1
    -- the deeds
    refine ⟨_, rfl, c, rfl, ⟨_, SqL.of (v4.sub _ _ hc4)⟩, ?_⟩
    refine for_list (K := K) (a := c) (xs := zs.map V.int) (fun i σ H' => ∃ G xs F rw, View R G H' p wd l2 xs F ∧ Same H1 G ∧ G c = some (.lst (zs.map V.int)) ∧ G d = some (.dK (dkv rw)) ∧ rw.Perm xs ∧ xs.length ≤ i ∧ ∃ y8, σ = [nR a, nI wd, nI (l2 : Int), nI (wd ^ l2), y, nR p, nR d, nR c, y8, none, none, none, none, none])
      ⟨G4, [], F, [], v4, t4, hc4, hd4, List.Perm.refl _, Nat.le_refl _, none, rfl⟩ (fun i σ H' _ hh => ?_) ?_ ?_
    · obtain ⟨G, xs, F, rw, v, _, hc, _⟩ := hh
      exact SqL.of (v.sub _ _ hc)
    · rintro i x σ H' hi ⟨G, xs, F, rw, v, sG, hc, hr, pm, hl, y8, rfl⟩
      obtain ⟨il, rfl, _⟩ := int_at hi
      dsimp only [gName]
      refine ⟨_, rfl, _, rfl, _, rfl, _, rfl, p, d, wd, l2, xs, F, G, rw, _, rfl, v, hr, pm, by omega, fun H3 G3 F3 xs2 rw2 v3 p3 hr3 pm3 hl3 => ?_⟩
      refine ⟨G3, xs2, F3, rw2, v3, fun b o e => p3 b o (fun z => ?_) (sG b o e), p3 c _ cd hc, hr3, pm3, by omega, _, rfl⟩
      rw [z, nd1] at e
      cases e
    rintro σ H5 ⟨G, xs, F5, rw, v, sG, hc, hr, pm, hl, y8, rfl⟩
    rw [List.length_map] at hl
    have ok := R.ok v.lad
    refine ⟨_, rfl, d, dkv rw, rw, rfl, .inl (v.sub _ _ hr), dkv_keys rw, fun xs' r2 pm2 rise2 nr2 => ?_⟩
    obtain rfl : xs' = xs := sort_same (pm2.trans pm) rise2 ok.rise
    have v6 := v.new (o := .lst (xs'.map V.int)) nr2
    have n6 := v.sub.free nr2
    have t6 := sG.trans (same_upd (o := .lst (xs'.map V.int)) n6)
    have hR6 : (upd G r2 (.lst (xs'.map V.int))) r2 = some (.lst (xs'.map V.int)) := upd_same
    revert v6 t6 hR6
    generalize upd G r2 (.lst (xs'.map V.int)) = G6
    generalize upd H5 r2 (.lst (xs'.map V.int)) = H6
    intro v6 t6 hR6
    dsimp only [gName]
    have hA6 := v6.sub.seq (t6.seq hS)
    refine ⟨_, rfl, a, ns, 0, rfl, hA6, _, _, rfl, rfl, ⟨by decide, by decide⟩, _, rfl, _, _, rfl, by omega, ?_⟩
    have hn2 := lawNum_in (c := cellOf ns 0 / 8) (lim := wd ^ l2) (by omega)
    revert hn2
    generalize lawNum (cellOf ns 0 / 8) (wd ^ l2) = dn
    intro hn2
    dsimp only [gName]
    refine ⟨_, rfl, a, ns, 1, rfl, hA6, _, _, rfl, rfl, ⟨by decide, by decide⟩, _, rfl, a, ns, 2, rfl, hA6, _, _, rfl, rfl, _, rfl, (by show 3 ≤ sizeLine; decide), fun sp nsp => ?_⟩
    have v7 := v6.new (o := .lst [.int (cellOf ns 1 / 12 + cellOf ns 2), .int 0, .int dn]) nsp
    have n7 := v6.sub.free nsp
    have t7 := t6.trans (same_upd (o := .lst [.int (cellOf ns 1 / 12 + cellOf ns 2), .int 0, .int dn]) n7)
    have hR7 := (same_upd (o := .lst [.int (cellOf ns 1 / 12 + cellOf ns 2), .int 0, .int dn]) n7) _ _ hR6
    have hP7 : (upd G6 sp (.lst [.int (cellOf ns 1 / 12 + cellOf ns 2), .int 0, .int dn])) sp = some (.lst [.int (cellOf ns 1 / 12 + cellOf ns 2), .int 0, .int dn]) := upd_same
    have n71 : H1 sp = none := Same.free t6 n7
    have r2s : r2 ≠ sp := ne_of_none hR6 n7
    revert v7 t7 hR7 hP7
    generalize upd G6 sp (.lst [.int (cellOf ns 1 / 12 + cellOf ns 2), .int 0, .int dn]) = G7
    generalize upd H6 sp (.lst [.int (cellOf ns 1 / 12 + cellOf ns 2), .int 0, .int dn]) = H7
    generalize cellOf ns 1 / 12 + cellOf ns 2 = s0
    intro v7 t7 hR7 hP7
    dsimp only [gName]
    show Evl.tCut _ _ _ [nR a, nI wd, nI (l2 : Int), nI (wd ^ l2), y, nR p, nR r2, nR c, y8, nI dn, nR sp, none, none, none] _
    have lv : (xs'.map V.int).length = xs'.length := List.length_map ..
    refine ⟨fun σ H' => ∃ (G' : Hp) (s1 : Int), View R G' H' p wd l2 xs' F5 ∧ Same H1 G' ∧ G' r2 = some (.lst (xs'.map V.int)) ∧ G' sp = some (.lst [.int s0, .int s1, .int dn]) ∧ 0 ≤ s1 ∧ s1 < wd ^ l2 ∧ σ = [nR a, nI wd, nI (l2 : Int), nI (wd ^ l2), y, nR p, nR r2, nR c, y8, nI dn, nR sp, none, none, none], ?_, ?_⟩
    · refine Evl.s_when (b := !decide (xs' = [])) (Evl.et_test (Evl.ev_opL (Evl.ev_var rfl) (Evl.el_lst Evl.ea_nil (by decide)) fun p H3 hp e3 => rv_neI (ms := []) (Evl.ex_l e3 (SqL.of (v7.sub _ _ hR7))) (SqL.of hp))) (fun hb H8 t8 => ?_) (fun hb H8 t8 => ⟨G7, 0, v7.grow t8, t7, hR7, hP7, Int.le_refl 0, by omega, rfl⟩)
      have hx : xs' ≠ [] := by
        rw [Bool.not_eq_true', decide_eq_false_iff_not] at hb
        exact hb
      have lp : 0 < xs'.length := List.length_pos_iff.mpr hx
      have v8 := v7.grow t8
      have c1 := Int.emod_nonneg (cellOf ns 2 / 5) (show (xs'.length : Int) ≠ 0 by omega)
      have c2 := Int.emod_lt_of_pos (cellOf ns 2 / 5) (show (0 : Int) < (xs'.length : Int) by omega)
      obtain ⟨j, ej, hj⟩ : ∃ j : Nat, cellOf ns 2 / 5 % (xs'.length : Int) = (j : Int) ∧ j < xs'.length := ⟨(cellOf ns 2 / 5 % (xs'.length : Int)).toNat, by omega, by omega⟩
      have gj : atI (xs'.map V.int) (cellOf ns 2 / 5 % ((xs'.map V.int).length : Int)) = some (.int (xs'.getD j 0)) := by
        rw [lv, ej]
        exact atI_nat (map_at hj)
      have mj := mem_at hj
      have b0 := ok.lo _ mj
      have b1 := ok.hi _ mj
      refine ⟨_, rfl, _, rfl, a, ns, 2, rfl, v8.sub.seq (t7.seq hS), _, _, rfl, rfl, ⟨by decide, by decide⟩, _, rfl, r2, _, rfl, .inl (SqL.of (v8.sub _ _ hR7)), _, _, rfl, rfl, (by show (0 : Int) < ((xs'.map V.int).length : Int); omega), r2, _, _, _, rfl, rfl, SqL.of (v8.sub _ _ hR7), gj, ?_⟩
      refine ⟨_, rfl, sp, _, 1, 1, rfl, rfl, v8.sub _ _ hP7, rfl, ?_⟩
      exact ⟨_, _, v8.mut hP7, same_mut t7 n71, by rw [upd_ne r2s]; exact hR7, upd_same, b0, b1, rfl⟩
    rintro σ H8 ⟨G8, s1, v8, t8, hR8, hP8, b0, b1, rfl⟩
    have hA8 := v8.sub.seq (t8.seq hS)
    have l8 := v8.lad
    have kx : xs'.length ≤ 24 := by omega
    have hR8H := v8.sub _ _ hR8
    have hP8H := v8.sub _ _ hP8
    have r2F : ¬ F5 r2 := fun f => by
      rw [v8.out r2 f] at hR8
      cases hR8
    have spF : ¬ F5 sp := fun f => by
      rw [v8.out sp f] at hP8
      cases hP8
    have hSp : SqL K H8 sp ([s0, s1, dn].map V.int) := SqL.of hP8H
    -- as one made anew
    refine ⟨_, rfl, _, rfl, p, sp, wd, l2, xs', F5, F5, s0, s1, dn, rfl, l8, fun _ h => h, PR.bagOf l8, hSp, b0, b1, hn2.1, hn2.2, by omega, fun H9 r9 t9 d9 => ?_⟩
    refine ⟨_, rfl, _, rfl, _, rfl, r2, wd, l2, xs', rfl, SqL.of (t9 _ _ hR8H), ok, by omega, fun H10 q10 F10 l10 t10 out10 => ?_⟩
    have u10 := t9.trans t10
    refine ⟨_, rfl, q10, sp, wd, l2, xs', F10, F10, s0, s1, dn, rfl, l10, fun _ h => h, PR.bagOf l10, u10.seq hSp, b0, b1, hn2.1, hn2.2, by omega, fun H11 r11 t11 d11 => ?_⟩
    refine told_ne (d9.same (Frame.refl F5 (t10.trans t11)).own) d11 ⟨false, rfl, iteF ?_⟩
    have u11 := u10.trans t11
    have hA11 := u11.seq hA8
    refine ⟨_, rfl, a, ns, 2, rfl, hA11, _, _, rfl, rfl, ⟨by decide, by decide, by decide⟩, _, _, rfl, rfl, (by show (0 : Int) < 10 ^ Int.toNat 15; decide), ?_⟩
    dsimp only [gName]
    have far0 := Int.emod_nonneg (cellOf ns 2) (show (10 : Int) ^ Int.toNat 15 ≠ 0 by decide)
    revert far0
    generalize cellOf ns 2 % 10 ^ Int.toNat 15 = far
    intro far0
    refine ⟨_, rfl, 1, rfl, _, rfl, _, _, rfl, rfl, p, wd, l2, xs', F5, _, rfl, R.same l8 u11, by omega, .inl (by omega), fun H12 t12 => ⟨true, rfl, iteF ?_⟩⟩
    refine ⟨_, rfl, _, rfl, _, _, rfl, rfl, _, rfl, _, _, rfl, rfl, p, wd, l2, xs', F5, _, rfl, R.same l8 (u11.trans t12), by omega, .inr (by omega), fun H13 t13 => ⟨true, rfl, iteF ?_⟩⟩
    have u13 := (u11.trans t12).trans t13
    have hA13 := u13.seq hA8
    have hn3 := lawNum_in (c := cellOf ns 2) (lim := wd ^ l2 + 1) (by omega)
    refine ⟨_, rfl, a, ns, 2, rfl, hA13, _, rfl, _, _, rfl, rfl, _, _, rfl, by omega, ?_⟩
    revert hn3
    generalize lawNum (cellOf ns 2) (wd ^ l2 + 1) = at1
    intro hn3
    dsimp only [gName]
    show Evl.tCut _ _ _ [nR a, nI wd, nI (l2 : Int), nI (wd ^ l2), y, nR p, nR r2, nR c, y8, nI dn, nR sp, nI far, nI at1, none] _
    refine ⟨fun σ H' => Same H8 H' ∧ ∃ at2 : Int, 0 ≤ at2 ∧ at2 ≤ wd ^ l2 ∧ σ = [nR a, nI wd, nI (l2 : Int), nI (wd ^ l2), y, nR p, nR r2, nR c, y8, nI dn, nR sp, nI far, nI at2, none], ?_, ?_⟩
    · refine Evl.s_when (b := decide (V.int (far % 3) = V.int 1) && !decide (xs' = [])) (Evl.et_and (Evl.et_test (Evl.ev_op (Evl.ev_op (Evl.ev_var rfl) Evl.ev_c (Evl.rv_I (by show (0 : Int) < 3; decide))) Evl.ev_c (Evl.rv_eq rfl))) fun _ => Evl.et_test (Evl.ev_opL (Evl.ev_var rfl) (Evl.el_lst Evl.ea_nil (by decide)) fun p H3 hp e3 => rv_neI (ns := xs') (ms := []) (Evl.ex_l e3 (SqL.of (u13 _ _ hR8H))) (SqL.of hp))) (fun hb H14 t14 => ?_) (fun hb H14 t14 => ⟨u13.trans t14, at1, hn3.1, by omega, rfl⟩)
      have hx : xs' ≠ [] := by
        have z := (Bool.and_eq_true_iff.mp hb).2
        rw [Bool.not_eq_true', decide_eq_false_iff_not] at z
        exact z
      have lp : 0 < xs'.length := List.length_pos_iff.mpr hx
      have c1 := Int.emod_nonneg (far / 3) (show (xs'.length : Int) ≠ 0 by omega)
      have c2 := Int.emod_lt_of_pos (far / 3) (show (0 : Int) < (xs'.length : Int) by omega)
      obtain ⟨j, ej, hj⟩ : ∃ j : Nat, far / 3 % (xs'.length : Int) = (j : Int) ∧ j < xs'.length := ⟨(far / 3 % (xs'.length : Int)).toNat, by omega, by omega⟩
      have gj : atI (xs'.map V.int) (far / 3 % ((xs'.map V.int).length : Int)) = some (.int (xs'.getD j 0)) := by
        rw [lv, ej]
        exact atI_nat (map_at hj)
      have mj := mem_at hj
      have e0 := ok.lo _ mj
      have e1 := ok.hi _ mj
      have hR14 : SqL K H14 r2 (xs'.map V.int) := SqL.of (t14 _ _ (u13 _ _ hR8H))
      exact ⟨_, rfl, _, rfl, _, _, rfl, rfl, ⟨by decide, by decide⟩, _, rfl, r2, _, rfl, .inl hR14, _, _, rfl, rfl, (by show (0 : Int) < ((xs'.map V.int).length : Int); omega), r2, _, _, _, rfl, rfl, hR14, gj, u13.trans t14, xs'.getD j 0, e0, by omega, rfl⟩
    rintro σ H14 ⟨t14, at2, k0, k1, rfl⟩
    have fr := Frame.refl F5 t14
    have hRo : outF F5 H8 r2 = some (.lst (xs'.map V.int)) := by rw [outF_out r2F]; exact hR8H
    have hSo : SqL K (outF F5 H8) sp ([s0, s1, dn].map V.int) := SqL.of (by rw [outF_out spF]; exact hP8H)
    exact ⟨_, rfl, _, rfl, _, rfl, _, rfl, p, r2, sp, wd, l2, xs', F5, at2, s0, s1, dn, rfl, R.same l8 t14, fr.own _ _ hRo, fr.own.seq hSo, k0, k1, b0, b1, hn2.1, hn2.2, by omega, q⟩
def sp_l_near (T : Txt K mg) (_ : Rep K T.c_Ladder) : Sp := fun vs H Q _ => ∃ (o : Option Int) (a : Addr) (zs : List Int), vs = [oV o, .ref a] ∧ SqL K H a (zs.map V.int) ∧ zs.head? = o ∧ ∀ H', Same H H' → Q (.bl true) H'
/-! ### the program's ladder -/
def flds (w : Int) (h n : Nat) (r : Addr) : List (Str × V) := [("width", .int w), ("high", .int (h : Int)), ("limit", .int (w ^ h)), ("many", .int (n : Int)), ("_row", .ref r)]
structure LadP (C : Addr) (H : Hp) (p : Addr) (w : Int) (h : Nat) (xs : List Int) (F : Addr → Prop) : Prop where
  ok : RowOk w h xs
  has : ∃ dx r, H p = some (.ins C dx (flds w h xs.length r)) ∧ H r = some (.lst (xs.map V.int)) ∧ F p ∧ F r ∧ ∀ b, F b → b = p ∨ b = r
theorem flds_free (w : Int) (h n : Nat) (r : Addr) : ∀ m ∈ methods, (flds w h n r).lookup m = none := fun m hm => by
  unfold flds
  have e : ∀ m ∈ methods, m ≠ "width" ∧ m ≠ "high" ∧ m ≠ "limit" ∧ m ≠ "many" ∧ m ≠ "_row" := by decide +kernel
  obtain ⟨e1, e2, e3, e4, e5⟩ := e m hm
  rw [List.lookup_cons, beq_false_of_ne e1, List.lookup_cons, beq_false_of_ne e2, List.lookup_cons, beq_false_of_ne e3, List.lookup_cons, beq_false_of_ne e4, List.lookup_cons, beq_false_of_ne e5]
  rfl
def theRep (T : Txt K mg) : Rep K T.c_Ladder where
  Lad := LadP T.c_Ladder
  ins := fun l => by
    obtain ⟨dx, r, h1, _⟩ := l.has
    exact ⟨dx, _, h1, by rfl, by rfl, by rfl, by rfl, flds_free _ _ _ _⟩
  ok := fun l => l.ok
  stay := fun l s => by
    obtain ⟨dx, r, h1, h2, f1, f2, f3⟩ := l.has
    exact ⟨l.ok, dx, r, s _ _ f1 h1, s _ _ f2 h2, f1, f2, f3⟩
  there := fun l b fb => by
    obtain ⟨dx, r, h1, h2, f1, f2, f3⟩ := l.has
    rcases f3 b fb with e | e
    · exact ⟨_, e ▸ h1⟩
    · exact ⟨_, e ▸ h2⟩
theorem flat_one (n : Nat) (v : V) : (List.replicate n [v]).flatten = List.replicate n v := by
  rw [List.flatten_replicate_singleton]
/-- the ladder with another row -/
theorem LadP.set {C : Addr} {H H' : Hp} {p : Addr} {w : Int} {h : Nat} {xs ys : List Int} {F : Addr → Prop} {dx r : Addr} (o : RowOk w h ys) (hp : H' p = some (.ins C dx (flds w h ys.length r))) (hr : H' r = some (.lst (ys.map V.int))) (f1 : F p) (f2 : F r) (f3 : ∀ b, F b → b = p ∨ b = r) : LadP C H' p w h ys F :=
  ⟨o, dx, r, hp, hr, f1, f2, f3⟩
theorem LadP.bag {C : Addr} {H : Hp} {p : Addr} {w : Int} {h : Nat} {xs : List Int} {F : Addr → Prop} (l : LadP C H p w h xs F) : Bag F H := fun b fb => by
  obtain ⟨dx, r, h1, h2, _, _, f3⟩ := l.has
  rcases f3 b fb with e | e
  · exact ⟨_, e ▸ h1, fun vs z => by cases z⟩
  · exact ⟨_, e ▸ h2, fun vs z => by cases z⟩
theorem ok_power (T : Txt K mg) : FnOk P w K mg base CX0 1 T.f_power T.fd_power ["width", "level"] (sp_power K) := by
  refine T.F_power.ok sc_power (fun vs H Q E h => ?_) (fun cdv A outer s H vs Q E hr h => ?_)
  · obtain ⟨wd, l, rfl, _⟩ := h
    rfl
  · obtain ⟨wd, l, rfl, h1, h2, h3, q⟩ := h
    refine ⟨_, (pss_cons (ps_set (i := 2) sc_power.nd rfl (.inl rfl) pe_int)
      (pss_cons (ps_for PassesOwn.never rfl (pi_range1 (by rfl) T.b_range (pa_cons (pv 1) pa_nil)) (pg_name (i := 3) sc_power.nd rfl (.inl rfl)) (pss_one (ps_set (i := 2) sc_power.nd rfl (.inl rfl) (pe_op op_mul (pv 2) (pv 0)))))
      (pss_one (ps_ret (pv 2))))), ?_⟩
    refine ⟨_, rfl, (l : Int), rfl, by omega, by omega, for_range (lo := 0) (n := l) (fun i σ H' => H' = H ∧ ∃ y, σ = [some (.int wd), some (.int (l : Int)), some (.int (wd ^ i)), y]) ⟨rfl, none, by rw [Int.pow_zero]; rfl⟩ ?_ ?_⟩
    · rintro i σ H' hi ⟨rfl, y, rfl⟩
      refine ⟨_, rfl, _, rfl, _, _, rfl, rfl, .inr ⟨by omega, by omega⟩, rfl, nI (0 + (i : Int)), ?_⟩
      rw [Int.pow_succ]
      rfl
    · rintro σ H' ⟨rfl, y, rfl⟩
      exact ⟨_, rfl, q⟩
theorem ok_block (T : Txt K mg) : FnOk P w K mg base CX0 2 T.f_block T.fd_block ["width", "level", "number"] (sp_block K) := by
  have G_power : FnOk P w K mg base CX0 1 T.f_power T.fd_power ["width", "level"] (sp_power K) := ok_power T
  refine T.F_block.ok sc_block (fun vs H Q E h => ?_) (fun cdv A outer s H vs Q E hr h => ?_)
  · obtain ⟨wd, l, n, rfl, _⟩ := h
    rfl
  · obtain ⟨wd, l, n, rfl, h1, h2, h3, q⟩ := h
    refine ⟨_, (pss_one (ps_ret (pe_op op_fdivW (pv 2) (pe_call G_power hr (by rfl) T.g_power T.F_power.kp T.bd_power .nil pass0 (pa_cons (pv 0) (pa_cons (pv 1) pa_nil)))))), ?_⟩
    exact ⟨_, rfl, _, rfl, _, rfl, wd, l, rfl, h1, h2, h3, _, _, rfl, rfl, div_ok h1 h2 h3 n, q⟩
theorem ok_thinned (T : Txt K mg) : FnOk P w K mg base CX0 3 T.f_thinned T.fd_thinned ["width", "level", "row"] (sp_thinned K) := by
  have G_block : FnOk P w K mg base CX0 2 T.f_block T.fd_block ["width", "level", "number"] (sp_block K) := ok_block T
  refine T.F_thinned.ok sc_thinned (fun vs H Q E h => ?_) (fun cdv A outer s H vs Q E hr h => ?_)
  · obtain ⟨wd, l, a, row, rfl, _⟩ := h
    rfl
  · obtain ⟨wd, l, a, row, rfl, h1, h2, h3, hS, hlen, q⟩ := h
    refine ⟨_, (pss_cons (ps_set (i := 3) sc_thinned.nd rfl (.inl rfl) (pe_lst pa_nil))
      (pss_cons (ps_for PassesOwn.never rfl (pi_list (pv 2)) (pg_name (i := 4) sc_thinned.nd rfl (.inl rfl)) (pss_one (ps_if (PW.pt (pw_or (pt_not (pt_truth (pv 3) (by intro _; rfl))) (pw_or1 (pt_cmpR op_ne (pe_call G_block hr (by rfl) T.g_block T.F_block.kp T.bd_block .nil pass0 (pa_cons (pv 0) (pa_cons (pv 1) (pa_cons (pe_ix ix_list (pv 3) (pe_un un_neg pe_int) (fun _ _ => rfl)) pa_nil)))) (pe_call G_block hr (by rfl) T.g_block T.F_block.kp T.bd_block .nil pass0 (pa_cons (pv 0) (pa_cons (pv 1) (pa_cons (pv 4) pa_nil)))) (nomark _))))) (pss_one (ps_expr (pe_bm PySem.F.plainAttrs_list PySem.F.slot_list_append PySem.F.type_list_append mt_append (pv 3) (pa_cons (pv 4) pa_nil)))) pss_nil)))
      (pss_one (ps_ret (pv 3))))), ?_⟩
    refine ⟨Nat.zero_le _, fun o no => ?_⟩
    have sm : Same H (upd H o (.lst [])) := same_upd no
    refine ⟨_, rfl, a, rfl, ⟨_, sm.seq hS⟩, for_list (K := K) (a := a) (xs := row.map V.int) (fun i σ H' => Same H H' ∧ H' o = some (.lst ((thinF (wd ^ l) (fun k => row.getD k 0) i).map V.int)) ∧ ∃ y, σ = [nI wd, nI (l : Int), nR a, nR o, y]) ⟨sm, upd_same, none, rfl⟩ (fun i σ H' _ ⟨s1, _, _⟩ => s1.seq hS) ?_ ?_⟩
    · rintro i x σ H' hi ⟨s1, ho, y, rfl⟩
      have hi2 : i < row.length := by
        have z := (List.getElem?_eq_some_iff.mp hi).1
        rw [List.length_map] at z
        exact z
      obtain ⟨n, en, rfl⟩ : ∃ n, row.getD i 0 = n ∧ x = V.int n := by
        rw [List.getElem?_map, List.getElem?_eq_getElem hi2] at hi
        refine ⟨row[i], ?_, (Option.some.inj hi).symm⟩
        rw [List.getD_eq_getElem?_getD, List.getElem?_eq_getElem hi2]
        rfl
      have app : thinP (wd ^ l) (fun k => row.getD k 0) i = true → (thinF (wd ^ l) (fun k => row.getD k 0) i).map V.int ++ [V.int n] = (thinF (wd ^ l) (fun k => row.getD k 0) (i + 1)).map V.int := fun h => by
        rw [thinF_yes h, List.map_append, en]
        rfl
      have sz : ((thinF (wd ^ l) (fun k => row.getD k 0) i).map V.int).length < sizeLine := by
        rw [List.length_map]
        exact small1000 (Nat.le_trans (thinF_len _ _ _) (by omega))
      cases i with
      | zero =>
        refine ⟨_, rfl, false, .inl ⟨_, SqL.of ho, rfl⟩, iteT (iteT ?_)⟩
        refine ⟨_, rfl, .inl ⟨rfl, _, SqL.of ho⟩, _, rfl, o, _, _, rfl, rfl, ho, sz, ?_⟩
        refine ⟨same_mut s1 no, ?_, _, rfl⟩
        rw [upd_same, app rfl]
      | succ j =>
        obtain ⟨ini, z, e, ez⟩ := thin_last (wd ^ l) (fun k => row.getD k 0) j
        have gl : atI ((thinF (wd ^ l) (fun k => row.getD k 0) (j + 1)).map V.int) (-1) = some (.int z) := by
          rw [e, List.map_append]
          exact atI_last _ _
        refine ⟨_, rfl, true, .inl ⟨_, SqL.of ho, by rw [e]; simp⟩, iteF ?_⟩
        refine ⟨_, rfl, _, rfl, _, rfl, 1, rfl, o, _, -1, _, rfl, rfl, SqL.of ho, gl, wd, l, z, rfl, h1, h2, h3, ?_⟩
        refine ⟨_, rfl, _, rfl, _, rfl, wd, l, n, rfl, h1, h2, h3, rfl, _, rfl, ite2 (fun c => ?_) (fun c => ?_)⟩
        · have t : thinP (wd ^ l) (fun k => row.getD k 0) (j + 1) = true := by
            unfold thinP
            rw [Bool.or_eq_true]
            refine .inr ?_
            rw [Bool.not_eq_true', decide_eq_false_iff_not] at *
            intro z2
            apply c
            show V.int (z / wd ^ l) = V.int (n / wd ^ l)
            rw [ez, ← en]
            exact congrArg V.int z2
          refine ⟨_, rfl, .inl ⟨rfl, _, SqL.of ho⟩, _, rfl, o, _, _, rfl, rfl, ho, sz, ?_⟩
          refine ⟨same_mut s1 no, ?_, _, rfl⟩
          rw [upd_same, app t]
        · have t : ¬ thinP (wd ^ l) (fun k => row.getD k 0) (j + 1) = true := by
            unfold thinP
            rw [Bool.or_eq_true]
            rintro (z2 | z2)
            · exact absurd (of_decide_eq_true z2) (by omega)
            · apply c
              rw [Bool.not_eq_true', decide_eq_false_iff_not] at *
              intro z3
              apply z2
              have z4 := V.int.inj z3
              rw [ez, ← en] at z4
              exact z4
          refine ⟨s1, ?_, _, rfl⟩
          rw [thinF_no t]
          exact ho
    · rintro σ H' ⟨s1, ho, y, rfl⟩
      rw [List.length_map] at ho
      exact ⟨_, rfl, q H' o s1 no ho⟩
theorem ok_tall (T : Txt K mg) : FnOk P w K mg base CX0 3 T.f_tall T.fd_tall ["width", "high", "before", "number"] (sp_tall K) := by
  have G_block : FnOk P w K mg base CX0 2 T.f_block T.fd_block ["width", "level", "number"] (sp_block K) := ok_block T
  refine T.F_tall.ok sc_tall (fun vs H Q E h => ?_) (fun cdv A outer s H vs Q E hr h => ?_)
  · obtain ⟨wd, h, b, n, rfl, _⟩ := h
    rfl
  · obtain ⟨wd, h, b, n, rfl, h1, h2, h3, q⟩ := h
    refine ⟨_, (pss_cons (ps_if (pt_cmpR op_isN (pv 2) pe_non (nomark _)) (pss_one (ps_ret (pe_op op_add (pv 1) pe_int))) pss_nil)
      (pss_cons (ps_set (i := 4) sc_tall.nd rfl (.inl rfl) pe_int)
      (pss_cons (ps_for PassesOwn.never rfl (pi_range1 (by rfl) T.b_range (pa_cons (pe_op op_add (pv 1) pe_int) pa_nil)) (pg_name (i := 5) sc_tall.nd rfl (.inl rfl)) (pss_one (ps_if (pt_cmpR op_ne (pe_call G_block hr (by rfl) T.g_block T.F_block.kp T.bd_block .nil pass0 (pa_cons (pv 0) (pa_cons (pv 5) (pa_cons (pv 2) pa_nil)))) (pe_call G_block hr (by rfl) T.g_block T.F_block.kp T.bd_block .nil pass0 (pa_cons (pv 0) (pa_cons (pv 5) (pa_cons (pv 3) pa_nil)))) (nomark _)) (pss_one (ps_set (i := 4) sc_tall.nd rfl (.inl rfl) (pe_op op_add (pv 4) pe_int))) pss_nil)))
      (pss_one (ps_ret (pv 4)))))), ?_⟩
    cases b with
    | none => exact ⟨_, rfl, rfl, _, rfl, ite2 (fun _ => ⟨_, rfl, _, _, rfl, rfl, q⟩) (fun z => (z (decide_eq_true rfl)).elim)⟩
    | some b =>
      refine ⟨_, rfl, rfl, _, rfl, ite2 (fun z => nomatch (of_decide_eq_true z)) (fun _ => ?_)⟩
      refine ⟨_, rfl, _, _, rfl, rfl, (h : Int) + 1, rfl, by omega, by omega, for_range (lo := 0) (n := ((h : Int) + 1).toNat) (fun i σ H' => H' = H ∧ ∃ y, σ = [nI wd, nI (h : Int), nI b, nI n, nI ((List.range i).countP (apartP wd b n) : Nat), y]) ⟨rfl, none, rfl⟩ ?_ ?_⟩
      · rintro i σ H' hi ⟨rfl, y, rfl⟩
        rw [Int.zero_add]
        refine ⟨_, rfl, _, rfl, _, rfl, wd, i, b, rfl, h1, h2, by omega, ?_⟩
        refine ⟨_, rfl, _, rfl, _, rfl, wd, i, n, rfl, h1, h2, by omega, ?_⟩
        refine ⟨rfl, _, rfl, ite2 (fun z => ?_) (fun z => ?_)⟩
        · have e : apartP wd b n i = true := z
          refine ⟨_, rfl, _, _, rfl, rfl, rfl, nI (i : Int), ?_⟩
          rw [countP_succ, if_pos e, Int.natCast_add]
          rfl
        · have e : ¬ apartP wd b n i = true := z
          refine ⟨rfl, nI (i : Int), ?_⟩
          rw [countP_succ, if_neg e, Nat.add_zero]
          rfl
      · rintro σ H' ⟨rfl, y, rfl⟩
        exact ⟨_, rfl, q⟩
theorem ok_ladder_init (T : Txt K mg) : FnOk P w K mg base (L2.CX P w) 2 T.f_ladder_init T.fd_ladder_init ["self", "width", "high"] (sp_ladder_init T (theRep T)) := by
  have G_power : FnOk P w K mg base CX0 1 T.f_power T.fd_power ["width", "level"] (sp_power K) := ok_power T
  refine T.F_ladder_init.okX sc_ladder_init (fun vs H Q E h => ?_) (fun cdv A outer s H vs Q E hr h => ?_)
  · obtain ⟨H0, p, dx, wd, hh, rfl, _⟩ := h
    rfl
  · obtain ⟨H0, p, dx, wd, hh, rfl, eH, np, ndx, ne, bad, good⟩ := h
    refine ⟨_, (pss_cons (ps_if (PW.pt (pw_or (pt_cmpR op_lt (pv 1) pe_int (nomark _)) (pw_or1 (pt_cmpR op_gt (pv 1) pe_int (nomark _))))) (pss_one (ps_raise rfl (takes_of rfl rfl rfl rfl) (pmk_own PySem.F.excBase_ValueError T.xp_BadSize T.x_BadSize T.kp_BadSize (raises_own T.bp_BadSize T.tp_BadSize) (by rfl)))) pss_nil)
      (pss_cons (ps_if (PW.pt (pw_or (pt_cmpR op_lt (pv 2) pe_int (nomark _)) (pw_or1 (pt_cmpR op_gt (pv 2) pe_int (nomark _))))) (pss_one (ps_raise rfl (takes_of rfl rfl rfl rfl) (pmk_own PySem.F.excBase_ValueError T.xp_BadSize T.x_BadSize T.kp_BadSize (raises_own T.bp_BadSize T.tp_BadSize) (by rfl)))) pss_nil)
      (pss_cons (ps_fld (pv 0) (pv 1) rfl)
      (pss_cons (ps_fld (pv 0) (pv 2) rfl)
      (pss_cons (ps_fld (pv 0) (pe_call G_power hr (by rfl) T.g_power T.F_power.kp T.bd_power .nil pass0 (pa_cons (pv 1) (pa_cons (pv 2) pa_nil))) rfl)
      (pss_cons (ps_fld (pv 0) pe_int rfl)
      (pss_one (ps_fld (pv 0) (pe_lst pa_nil) rfl)))))))), ?_⟩
    subst eH
    have nd : ∀ b u, H0 b = some u → b ≠ p ∧ b ≠ dx := fun b u e => ⟨ne_of_none e np, ne_of_none e ndx⟩
    have sm : ∀ o, Same H0 (upd (upd H0 dx (.own p)) p o) := fun o b u e => by
      rw [upd_ne (nd b u e).1, upd_ne (nd b u e).2]
      exact e
    refine ⟨_, rfl, _, _, rfl, rfl, _, rfl, ite2 (fun c => iteT (bad (.inl (of_decide_eq_true c)) _ (sm _))) (fun c1 => ?_)⟩
    refine ⟨_, rfl, _, _, rfl, rfl, _, rfl, ite2 (fun c => bad (.inr (.inl (of_decide_eq_true c))) _ (sm _)) (fun c2 => ?_)⟩
    refine ⟨_, rfl, _, _, rfl, rfl, _, rfl, ite2 (fun c => iteT (bad (.inr (.inr (.inl (of_decide_eq_true c)))) _ (sm _))) (fun c3 => ?_)⟩
    refine ⟨_, rfl, _, _, rfl, rfl, _, rfl, ite2 (fun c => bad (.inr (.inr (.inr (of_decide_eq_true c)))) _ (sm _)) (fun c4 => ?_)⟩
    have d1 : ¬ wd < 2 := fun z => c1 (decide_eq_true z)
    have d2 : ¬ 9 < wd := fun z => c2 (decide_eq_true z)
    have d3 : ¬ hh < 1 := fun z => c3 (decide_eq_true z)
    have d4 : ¬ 12 < hh := fun z => c4 (decide_eq_true z)
    obtain ⟨h, rfl⟩ : ∃ h : Nat, hh = (h : Int) := ⟨hh.toNat, by omega⟩
    refine ⟨_, rfl, _, rfl, p, _, dx, _, rfl, upd_same, T.cl_Ladder, T.n_Ladder_width, (by show 0 < 1000; decide), ?_⟩
    refine ⟨_, rfl, _, rfl, p, _, dx, _, rfl, upd_same, T.cl_Ladder, T.n_Ladder_high, (by show 1 < 1000; decide), ?_⟩
    refine ⟨_, rfl, _, rfl, wd, h, rfl, by omega, by omega, by omega, _, rfl, p, _, dx, _, rfl, upd_same, T.cl_Ladder, T.n_Ladder_limit, (by show 2 < 1000; decide), ?_⟩
    refine ⟨_, rfl, p, _, dx, _, rfl, upd_same, T.cl_Ladder, T.n_Ladder_many, (by show 3 < 1000; decide), ?_⟩
    refine ⟨Nat.zero_le _, fun r nr => ?_⟩
    rw [upd_upd, upd_upd, upd_upd, upd_upd] at *
    have rp : r ≠ p := fun z => by
      rw [z, upd_same] at nr
      cases nr
    refine ⟨_, rfl, p, _, dx, _, rfl, by rw [upd_ne rp.symm, upd_same], T.cl_Ladder, T.n_Ladder__row, (by show 4 < 1000; decide), ?_⟩
    have nr0 : H0 r = none := by
      cases e : H0 r with
      | none => rfl
      | some o =>
        rw [sm _ _ _ e] at nr
        cases nr
    refine good h rfl (by omega) (by omega) (by omega) (by omega) _ (fun b => b = p ∨ b = r) ⟨⟨by omega, by omega, by omega, by omega, .nil, (fun x hx => nomatch hx), (fun x hx => nomatch hx)⟩, dx, r, upd_same, by rw [upd_ne rp, upd_same]; rfl, .inl rfl, .inr rfl, fun b fb => fb⟩ (fun b u e => ?_) (fun b fb => ?_)
    · rw [upd_ne (nd b u e).1, upd_ne (ne_of_none e nr0)]
      exact sm _ b u e
    · rcases fb with rfl | rfl
      · exact np
      · exact nr0
def sp_ladder_check_number (T : Txt K mg) (R : Rep K T.c_Ladder) : Sp := fun vs H Q E => ∃ (p : Addr) (w : Int) (h : Nat) (xs : List Int) (F : Addr → Prop) (n : Int), vs = [.ref p, .int n] ∧ R.Lad H p w h xs F ∧
  ((n < 0 ∨ w ^ h ≤ n) → E (.ref T.c_OutOfRange) none H) ∧ (0 ≤ n → n < w ^ h → Q .non H)
theorem ok_ladder_check_number (T : Txt K mg) : FnOk P w K mg base (L2.CX P w) 1 T.f_ladder_check_number T.fd_ladder_check_number ["self", "number"] (sp_ladder_check_number T (theRep T)) := by
  refine T.F_ladder_check_number.okX sc_ladder_check_number (fun vs H Q E h => ?_) (fun cdv A outer s H vs Q E hr h => ?_)
  · obtain ⟨p, wd, h, xs, F, n, rfl, _⟩ := h
    rfl
  · obtain ⟨p, wd, h, xs, F, n, rfl, hL, bad, good⟩ := h
    refine ⟨_, (pss_one (ps_if (PW.pt (pw_or (pt_cmpR op_lt (pv 1) pe_int (nomark _)) (pw_or1 (pt_cmpR op_ge (pv 1) (pe_fld (pv 0) rfl) (nomark _))))) (pss_one (ps_raise rfl (takes_of rfl rfl rfl rfl) (pmk_own PySem.F.excBase_ValueError T.xp_OutOfRange T.x_OutOfRange T.kp_OutOfRange (raises_own T.bp_OutOfRange T.tp_OutOfRange) (by rfl)))) pss_nil)), ?_⟩
    obtain ⟨dx, r, hp, hr', f1, f2, f3⟩ := hL.has
    refine ⟨_, rfl, _, _, rfl, rfl, _, rfl, ite2 (fun c => iteT (bad (.inl (of_decide_eq_true c)))) (fun c => ?_)⟩
    refine ⟨_, rfl, _, rfl, p, _, dx, _, _, rfl, hp, T.cl_Ladder, T.n_Ladder_limit, rfl, _, _, rfl, rfl, _, rfl, ite2 (fun c2 => bad (.inr (of_decide_eq_true c2))) (fun c2 => good ?_ ?_)⟩
    · have z : ¬ n < 0 := fun q => c (decide_eq_true q)
      omega
    · have z : ¬ wd ^ h ≤ n := fun q => c2 (decide_eq_true q)
      omega
theorem ok_ladder_has (T : Txt K mg) : FnOk P w K mg base (L2.CX P w) 2 T.f_ladder_has T.fd_ladder_has ["self", "number"] (sp_ladder_has T (theRep T)) := by
  have G_ladder_check_number : FnOk P w K mg base (L2.CX P w) 1 T.f_ladder_check_number T.fd_ladder_check_number ["self", "number"] (sp_ladder_check_number T (theRep T)) := ok_ladder_check_number T
  refine T.F_ladder_has.okX sc_ladder_has (fun vs H Q E h => ?_) (fun cdv A outer s H vs Q E hr h => ?_)
  · obtain ⟨p, wd, h, xs, F, n, rfl, _⟩ := h
    rfl
  · obtain ⟨p, wd, h, xs, F, n, rfl, hL, hlen, bad, good⟩ := h
    refine ⟨_, (pss_cons (ps_expr (pe_meth (pv 0) T.cl_Ladder T.m_ladder_check_number G_ladder_check_number hr T.bd_ladder_check_number .nil (passes_call (takes_of rfl rfl rfl rfl) (fun _ _ _ _ h => h)) (pa_cons (pv 1) pa_nil)))
      (pss_one (ps_ret (pe_cmpR op_in_seq (pv 1) (pe_fld (pv 0) rfl) (by rfl))))), ?_⟩
    obtain ⟨dx, r, hp, hr', f1, f2, f3⟩ := hL.has
    refine ⟨_, rfl, p, dx, _, rfl, hp, rfl, _, rfl, p, wd, h, xs, F, n, rfl, hL, fun c => bad c H (Evl.Ex.refl _), fun a b => ?_⟩
    dsimp only
    refine Evl.s_ret (v := .bl (decide (n ∈ xs))) ?_ (fun H2 s2 => good a b H2 s2)
    exact Evl.ev_op (Evl.ev_var rfl) (ev_fld (Evl.ev_var rfl) hp T.cl_Ladder T.n_Ladder__row rfl) (rv_inI (SqL.of hr'))
def sp_ladder_spot (T : Txt K mg) (R : Rep K T.c_Ladder) : Sp := fun vs H Q _ => ∃ (p : Addr) (w : Int) (h : Nat) (xs : List Int) (F : Addr → Prop) (n : Int), vs = [.ref p, .int n] ∧ R.Lad H p w h xs F ∧ xs.length ≤ 151 ∧
  ∀ H', Same H H' → Q (.int (placeN xs n : Int)) H'
theorem ok_ladder_spot (T : Txt K mg) : FnOk P w K mg base CX0 1 T.f_ladder_spot T.fd_ladder_spot ["self", "number"] (sp_ladder_spot T (theRep T)) := by
  refine T.F_ladder_spot.ok sc_ladder_spot (fun vs H Q E h => ?_) (fun cdv A outer s H vs Q E hr h => ?_)
  · obtain ⟨p, wd, h, xs, F, n, rfl, _⟩ := h
    rfl
  · obtain ⟨p, wd, h, xs, F, n, rfl, hL, hlen, q⟩ := h
    refine ⟨_, (pss_one (ps_ret (pe_callB call_len_seq (by rfl) T.b_len PySem.boot_len (pa_cons (pe_lc (own := [("kept", 2)]) (g := gName 2) (by rfl) sc_ladder_spot.nd (pi_list (pe_fld (pv 0) rfl)) (blkOk_by (own := [("kept", 2)]) (N := ["self", "number", "kept"]) (sc := defScope s_ladder_spot) (by decide +kernel)) (fun _ _ _ _ _ => (pg_name (i := 2) sc_ladder_spot.nd rfl (Or.inl rfl))) (fun _ _ _ _ _ => (pts_one (pt_cmpR op_lt (pv 2) (pv 1) (nomark _)))) (fun _ _ _ _ _ => (pv 2))) pa_nil)))), ?_⟩
    obtain ⟨dx, r, hp, hr', f1, f2, f3⟩ := hL.has
    refine ev_use (v := .int (placeN xs n : Int)) ?_ (fun H2 s2 => q H2 s2)
    refine Evl.ev_is (Evl.ev_lenN (el_fil (fun x => decide (x < n)) (ev_fld (Evl.ev_var rfl) hp T.cl_Ladder T.n_Ladder__row rfl) (SqL.of hr') (by omega) (fun _ => rfl) (fun x _ H1 _ => Evl.et_test (Evl.ev_op (Evl.ev_var rfl) (Evl.ev_var rfl) Evl.rv_I0)) (fun x _ H1 _ _ => Evl.ev_var rfl))) ?_
    rw [List.length_map]
    rfl
def sp_ladder_before (T : Txt K mg) (R : Rep K T.c_Ladder) : Sp := fun vs H Q _ => ∃ (p : Addr) (w : Int) (h : Nat) (xs : List Int) (F : Addr → Prop) (k : Nat), vs = [.ref p, .int (k : Int)] ∧ R.Lad H p w h xs F ∧ k ≤ xs.length ∧ Q (oV (if k = 0 then none else xs[k - 1]?)) H
theorem ok_ladder_before (T : Txt K mg) : FnOk P w K mg base CX0 1 T.f_ladder_before T.fd_ladder_before ["self", "spot"] (sp_ladder_before T (theRep T)) := by
  refine T.F_ladder_before.ok sc_ladder_before (fun vs H Q E h => ?_) (fun cdv A outer s H vs Q E hr h => ?_)
  · obtain ⟨p, wd, h, xs, F, k, rfl, _⟩ := h
    rfl
  · obtain ⟨p, wd, h, xs, F, k, rfl, hL, hk, q⟩ := h
    refine ⟨_, (pss_cons (ps_if (pt_cmpR op_eq (pv 1) pe_int (nomark _)) (pss_one (ps_ret pe_non)) pss_nil)
      (pss_one (ps_ret (pe_ix ix_list (pe_fld (pv 0) rfl) (pe_op op_sub (pv 1) pe_int) (fun _ _ => rfl))))), ?_⟩
    obtain ⟨dx, r, hp, hr', f1, f2, f3⟩ := hL.has
    refine ⟨_, rfl, rfl, _, rfl, ite2 (fun c => ?_) (fun c => ?_)⟩
    · have e : (k : Int) = 0 := V.int.inj (of_decide_eq_true c)
      rw [if_pos (by omega)] at q
      exact q
    · have e : ¬ (k : Int) = 0 := fun z => c (decide_eq_true (congrArg V.int z))
      have lt : k - 1 < xs.length := by omega
      rw [if_neg (by omega), List.getElem?_eq_getElem lt] at q
      refine ⟨_, rfl, p, _, dx, _, _, rfl, hp, T.cl_Ladder, T.n_Ladder__row, rfl, _, rfl, _, _, rfl, rfl, r, _, _, _, rfl, rfl, SqL.of hr', ?_, q⟩
      rw [show (k : Int) - 1 = ((k - 1 : Nat) : Int) by omega]
      refine atI_nat ?_
      rw [List.getElem?_map, List.getElem?_eq_getElem lt]
      rfl
def sp_ladder_at_or_none (T : Txt K mg) (R : Rep K T.c_Ladder) : Sp := fun vs H Q _ => ∃ (p : Addr) (w : Int) (h : Nat) (xs : List Int) (F : Addr → Prop) (k : Nat), vs = [.ref p, .int (k : Int)] ∧ R.Lad H p w h xs F ∧ k ≤ xs.length ∧ Q (oV xs[k]?) H
theorem ok_ladder_at_or_none (T : Txt K mg) : FnOk P w K mg base CX0 1 T.f_ladder_at_or_none T.fd_ladder_at_or_none ["self", "spot"] (sp_ladder_at_or_none T (theRep T)) := by
  refine T.F_ladder_at_or_none.ok sc_ladder_at_or_none (fun vs H Q E h => ?_) (fun cdv A outer s H vs Q E hr h => ?_)
  · obtain ⟨p, wd, h, xs, F, k, rfl, _⟩ := h
    rfl
  · obtain ⟨p, wd, h, xs, F, k, rfl, hL, hk, q⟩ := h
    refine ⟨_, (pss_cons (ps_if (pt_cmpR op_eq (pv 1) (pe_fld (pv 0) rfl) (nomark _)) (pss_one (ps_ret pe_non)) pss_nil)
      (pss_one (ps_ret (pe_ix ix_list (pe_fld (pv 0) rfl) (pv 1) (fun _ _ => rfl))))), ?_⟩
    obtain ⟨dx, r, hp, hr', f1, f2, f3⟩ := hL.has
    refine ⟨_, rfl, _, rfl, p, _, dx, _, _, rfl, hp, T.cl_Ladder, T.n_Ladder_many, rfl, rfl, _, rfl, ite2 (fun c => ?_) (fun c => ?_)⟩
    · have e : (k : Int) = (xs.length : Int) := V.int.inj (of_decide_eq_true c)
      rw [List.getElem?_eq_none (by omega)] at q
      exact q
    · have e : ¬ (k : Int) = (xs.length : Int) := fun z => c (decide_eq_true (congrArg V.int z))
      have lt : k < xs.length := by omega
      rw [List.getElem?_eq_getElem lt] at q
      refine ⟨_, rfl, p, _, dx, _, _, rfl, hp, T.cl_Ladder, T.n_Ladder__row, rfl, _, rfl, r, _, _, _, rfl, rfl, SqL.of hr', atI_nat ?_, q⟩
      rw [List.getElem?_map, List.getElem?_eq_getElem lt]
      rfl
def sp_ladder_heirs (T : Txt K mg) (R : Rep K T.c_Ladder) : Sp := fun vs H Q _ => ∃ (p : Addr) (w : Int) (h : Nat) (xs : List Int) (F : Addr → Prop) (n : Int), vs = [.ref p, .int n] ∧ R.Lad H p w h xs F ∧ xs.length ≤ 151 ∧ n ∈ xs ∧
  ∀ H' r, Same H H' → H r = none → H' r = some (.lst (heirL w h xs n)) → Q (.ref r) H'
theorem ok_ladder_heirs (T : Txt K mg) : FnOk P w K mg base CX0 4 T.f_ladder_heirs T.fd_ladder_heirs ["self", "number"] (sp_ladder_heirs T (theRep T)) := by
  have G_ladder_spot : FnOk P w K mg base CX0 1 T.f_ladder_spot T.fd_ladder_spot ["self", "number"] (sp_ladder_spot T (theRep T)) := ok_ladder_spot T
  have G_tall : FnOk P w K mg base CX0 3 T.f_tall T.fd_tall ["width", "high", "before", "number"] (sp_tall K) := ok_tall T
  have G_ladder_at_or_none : FnOk P w K mg base CX0 1 T.f_ladder_at_or_none T.fd_ladder_at_or_none ["self", "spot"] (sp_ladder_at_or_none T (theRep T)) := ok_ladder_at_or_none T
  have G_ladder_before : FnOk P w K mg base CX0 1 T.f_ladder_before T.fd_ladder_before ["self", "spot"] (sp_ladder_before T (theRep T)) := ok_ladder_before T
  refine T.F_ladder_heirs.ok sc_ladder_heirs (fun vs H Q E h => ?_) (fun cdv A outer s H vs Q E hr h => ?_)
  · obtain ⟨p, wd, h, xs, F, n, rfl, _⟩ := h
    rfl
  · obtain ⟨p, wd, h, xs, F, n, rfl, hL, hlen, hn, q⟩ := h
    refine ⟨_, (pss_cons (ps_set (i := 2) sc_ladder_heirs.nd rfl (.inl rfl) (pe_meth (pv 0) T.cl_Ladder T.m_ladder_spot G_ladder_spot (hr.mono (by decide)) T.bd_ladder_spot .nil pass0 (pa_cons (pv 1) pa_nil)))
      (pss_cons (ps_set (i := 3) sc_ladder_heirs.nd rfl (.inl rfl) (pe_call G_tall hr (by rfl) T.g_tall T.F_tall.kp T.bd_tall .nil pass0 (pa_cons (pe_fld (pv 0) rfl) (pa_cons (pe_fld (pv 0) rfl) (pa_cons (pe_meth (pv 0) T.cl_Ladder T.m_ladder_before G_ladder_before (hr.mono (by decide)) T.bd_ladder_before .nil pass0 (pa_cons (pv 2) pa_nil)) (pa_cons (pv 1) pa_nil))))))
      (pss_cons (ps_set (i := 4) sc_ladder_heirs.nd rfl (.inr rfl) (pe_meth (pv 0) T.cl_Ladder T.m_ladder_at_or_none G_ladder_at_or_none (hr.mono (by decide)) T.bd_ladder_at_or_none .nil pass0 (pa_cons (pe_op op_add (pv 2) pe_int) pa_nil)))
      (pss_cons (ps_if (pt_cmpR op_isN (pv 4) pe_non (nomark _)) (pss_one (ps_ret (pe_op op_rep (pe_lst (pa_cons pe_non pa_nil)) (pv 3)))) pss_nil)
      (pss_cons (ps_set (i := 5) sc_ladder_heirs.nd rfl (.inr rfl) (pe_call G_tall hr (by rfl) T.g_tall T.F_tall.kp T.bd_tall .nil pass0 (pa_cons (pe_fld (pv 0) rfl) (pa_cons (pe_fld (pv 0) rfl) (pa_cons (pv 1) (pa_cons (pv 4) pa_nil))))))
      (pss_one (ps_ret (pe_lc (own := [("level", 6)]) (g := gName 6) (by rfl) sc_ladder_heirs.nd (pi_range1 (by rfl) T.b_range (pa_cons (pv 3) pa_nil)) (blkOk_by (own := [("level", 6)]) (N := ["self", "number", "spot", "levels", "after", "beside", "level"]) (sc := defScope s_ladder_heirs) (by decide +kernel)) (fun _ _ _ _ _ => (pg_name (i := 6) sc_ladder_heirs.nd rfl (Or.inl rfl))) (fun _ _ _ _ _ => pts_nil) (fun _ _ _ _ _ => (pe_ifExp (pt_cmpR op_lt (pv 6) (pv 5) (nomark _)) pe_non (pv 4))))))))))), ?_⟩
    obtain ⟨dx, r, hp, hr', f1, f2, f3⟩ := hL.has
    have ok := hL.ok
    have h12 := ok.h12
    have lt := place_lt ok.rise hn
    refine ⟨_, rfl, p, dx, _, rfl, hp, rfl, _, rfl, p, wd, h, xs, F, n, rfl, hL, hlen, fun H1 s1 => ?_⟩
    have hL1 := (theRep T).same hL s1
    have hp1 := s1 _ _ hp
    refine ⟨_, rfl, p, _, dx, _, _, rfl, hp1, T.cl_Ladder, T.n_Ladder_width, rfl, _, rfl, p, _, dx, _, _, rfl, hp1, T.cl_Ladder, T.n_Ladder_high, rfl, _, rfl, p, dx, _, rfl, hp1, rfl, _, rfl, p, wd, h, xs, F, placeN xs n, rfl, hL1, by omega, _, rfl, wd, h, _, n, rfl, ok.w2, ok.w9, by omega, ?_⟩
    rw [← belowO_at ok.rise n, tallO_cnt]
    refine ⟨_, rfl, p, dx, _, rfl, hp1, rfl, _, rfl, _, _, rfl, rfl, p, wd, h, xs, F, placeN xs n + 1, by rw [Int.natCast_add]; rfl, hL1, by omega, ?_⟩
    rw [← aboveO_at ok.rise hn]
    have cl := cntN_le wd h xs n
    cases ha : aboveO xs n with
    | none =>
      refine ⟨_, rfl, rfl, _, rfl, ite2 (fun _ => ?_) (fun z => (z (decide_eq_true rfl)).elim)⟩
      refine ⟨(by show 1 ≤ sizeLine; decide), fun a na => ⟨_, rfl, a, _, _, rfl, rfl, upd_same, by omega, by omega, ?_, fun b nb => ?_⟩⟩
      · show 1 * _ ≤ sizeLine
        exact Nat.le_of_lt (small1000 (by omega))
      · have nb0 : H1 b = none := Same.free (same_upd na) nb
        refine q _ b ((s1.trans (same_upd na)).trans (same_upd nb)) (Same.free s1 nb0) ?_
        rw [upd_same]
        refine congrArg (fun t => some (HO.lst t)) ?_
        unfold heirL
        have e : (List.range (cntN wd h xs n)).map (fun l => oV (mateO wd xs n l)) = (List.range (cntN wd h xs n)).map fun _ => V.non := List.map_congr_left fun l _ => by rw [mateO_none ha]; rfl
        rw [e, List.map_const', List.length_range, Int.toNat_natCast, flat_one]
    | some g =>
      refine ⟨_, rfl, rfl, _, rfl, ite2 (fun z => nomatch (of_decide_eq_true z)) (fun _ => ?_)⟩
      refine ⟨_, rfl, p, _, dx, _, _, rfl, hp1, T.cl_Ladder, T.n_Ladder_width, rfl, _, rfl, p, _, dx, _, _, rfl, hp1, T.cl_Ladder, T.n_Ladder_high, rfl, _, rfl, _, rfl, wd, h, some n, g, rfl, ok.w2, ok.w9, by omega, ?_⟩
      dsimp only [gName]
      show tRet _ _ [nR p, nI n, nI (placeN xs n : Int), nI (cntN wd h xs n : Int), nI g, nI (tallO wd h (some n) g), none] _
      refine Evl.s_retL (xs := heirL wd h xs n) ?_ fun b H2 nb s2 hb => q H2 b (s1.trans s2) (Same.free s1 nb) hb
      have e : heirL wd h xs n = Evl.given (cntN wd h xs n : Int).toNat (fun _ => true) (fun l => if l < tallN wd h n g then .non else .int g) := by
        unfold Evl.given heirL
        rw [Int.toNat_natCast, List.filter_eq_self.mpr fun _ _ => rfl]
        refine List.map_congr_left fun l hl => ?_
        have := List.mem_range.mp hl
        rw [mateO_some ok.w2 ha (hh := h) (l := l) (by omega)]
        split <;> rfl
      rw [e]
      refine Evl.el_lcR1 (fun _ => true) _ (Evl.ea_cons (Evl.ev_var rfl) Evl.ea_nil) ⟨by omega, by omega⟩ (fun _ => rfl) (fun i H3 e3 hi => et_yes) (fun i H3 e3 hi _ => ?_)
      refine Evl.ev_if (b := decide ((i : Int) < tallO wd h (some n) g)) (Evl.et_test (Evl.ev_op (Evl.ev_var rfl) (Evl.ev_var rfl) Evl.rv_I0)) (fun c => ?_) (fun c => ?_)
      · have c2 : (i : Int) < (tallN wd h n g : Int) := of_decide_eq_true c
        show Evl.Ev _ _ _ (if i < tallN wd h n g then V.non else V.int g)
        rw [if_pos (by omega)]
        exact Evl.ev_c
      · have c2 : ¬ (i : Int) < (tallN wd h n g : Int) := of_decide_eq_false c
        show Evl.Ev _ _ _ (if i < tallN wd h n g then V.non else V.int g)
        rw [if_neg (by omega)]
        exact Evl.ev_var rfl
theorem ok_ladder_put (T : Txt K mg) : FnOk P w K mg base (L2.CX P w) 5 T.f_ladder_put T.fd_ladder_put ["self", "number"] (sp_ladder_put T (theRep T)) := by
  have G_ladder_has : FnOk P w K mg base (L2.CX P w) 2 T.f_ladder_has T.fd_ladder_has ["self", "number"] (sp_ladder_has T (theRep T)) := ok_ladder_has T
  have G_ladder_spot : FnOk P w K mg base CX0 1 T.f_ladder_spot T.fd_ladder_spot ["self", "number"] (sp_ladder_spot T (theRep T)) := ok_ladder_spot T
  have G_ladder_heirs : FnOk P w K mg base CX0 4 T.f_ladder_heirs T.fd_ladder_heirs ["self", "number"] (sp_ladder_heirs T (theRep T)) := ok_ladder_heirs T
  refine T.F_ladder_put.okX sc_ladder_put (fun vs H Q E h => ?_) (fun cdv A outer s H vs Q E hr h => ?_)
  · obtain ⟨p, wd, h, xs, F, G, n, rfl, _⟩ := h
    rfl
  · obtain ⟨p, wd, h, xs, F, G, n, rfl, v, hlen, bad, dup, good⟩ := h
    refine ⟨_, (pss_cons (ps_if (pt_val (pe_meth (pv 0) T.cl_Ladder T.m_ladder_has G_ladder_has (hr.mono (by decide)) T.bd_ladder_has .nil (passes_call (takes_of rfl rfl rfl rfl) (fun _ _ _ _ h => h)) (pa_cons (pv 1) pa_nil))) (pss_one (ps_raise rfl (takes_of rfl rfl rfl rfl) (pmk_own PySem.F.excBase_ValueError T.xp_Present T.x_Present T.kp_Present (raises_own T.bp_Present T.tp_Present) (by rfl)))) pss_nil)
      (pss_cons (ps_expr (pe_bm PySem.F.plainAttrs_list PySem.F.slot_list_insert PySem.F.type_list_insert mt_insert (pe_fld (pv 0) rfl) (pa_cons (pe_meth (pv 0) T.cl_Ladder T.m_ladder_spot G_ladder_spot (hr.mono (by decide)) T.bd_ladder_spot .nil pass0 (pa_cons (pv 1) pa_nil)) (pa_cons (pv 1) pa_nil))))
      (pss_cons (ps_fld (pv 0) (pe_callB call_len_seq (by rfl) T.b_len PySem.boot_len (pa_cons (pe_fld (pv 0) rfl) pa_nil)) rfl)
      (pss_one (ps_ret (pe_lc (own := [("level", 2), ("went", 3)]) (g := gTup K 2 (gCons (gName 2) (gCons (gName 3) gNil))) (by rfl) sc_ladder_put.nd (pi_enum (by rfl) T.b_enumerate (pa_cons (pe_meth (pv 0) T.cl_Ladder T.m_ladder_heirs G_ladder_heirs hr T.bd_ladder_heirs .nil pass0 (pa_cons (pv 1) pa_nil)) pa_nil)) (blkOk_by (own := [("level", 2), ("went", 3)]) (N := ["self", "number", "level", "went"]) (sc := defScope s_ladder_put) (by decide +kernel)) (fun _ _ _ _ _ => (pg_tup rfl (pgs_cons (pg_name (i := 2) sc_ladder_put.nd rfl (Or.inl rfl)) (pgs_cons (pg_name (i := 3) sc_ladder_put.nd rfl (Or.inl rfl)) pgs_nil)))) (fun _ _ _ _ _ => pts_nil) (fun _ _ _ _ _ => (pe_tup (pa_cons (pv 2) (pa_cons (pv 1) (pa_cons (pv 3) pa_nil))))))))))), ?_⟩
    have hL := v.lad
    obtain ⟨dx, r, hp, hr', f1, f2, f3⟩ := hL.has
    have ok := hL.ok
    refine ⟨_, rfl, p, dx, _, rfl, hp, rfl, _, rfl, p, wd, h, xs, F, n, rfl, hL, by omega, bad, fun a b H1 s1 => ?_⟩
    refine ⟨_, rfl, ite2 (fun c => dup (of_decide_eq_true c) H1 s1) (fun c => ?_)⟩
    have nx : n ∉ xs := fun z => c (decide_eq_true z)
    have hL1 := (theRep T).same hL s1
    have hp1 := s1 _ _ hp
    have hr1 := s1 _ _ hr'
    have lx : (xs.map V.int).length = xs.length := List.length_map ..
    refine ⟨_, rfl, p, _, dx, _, _, rfl, hp1, T.cl_Ladder, T.n_Ladder__row, rfl, .inl ⟨rfl, _, SqL.of hr1⟩, _, rfl, p, dx, _, rfl, hp1, rfl, _, rfl, p, wd, h, xs, F, n, rfl, hL1, by omega, fun H2 s2 => ?_⟩
    have hp2 := s2 _ _ hp1
    have hr2 := s2 _ _ hr1
    have pl := placeN_le xs n
    refine ⟨_, rfl, r, _, _, _, rfl, rfl, hr2, by rw [lx]; exact small1000 (by omega), by omega, by omega, ?_⟩
    have er : (xs.map V.int).take (placeN xs n : Int).toNat ++ [V.int n] ++ (xs.map V.int).drop (placeN xs n : Int).toNat = (insR n xs).map V.int := by
      rw [Int.toNat_natCast, ← insR_at ok.rise nx, List.map_append, List.map_append, List.map_take, List.map_drop]
      rfl
    rw [er]
    have pr : p ≠ r := ne_of hp1 hr1 (by intro z; cases z)
    have v2 : View (theRep T) G H2 p wd h xs F := v.grow (s1.trans s2)
    refine ⟨_, rfl, p, _, dx, _, _, rfl, by rw [upd_ne pr]; exact hp2, T.cl_Ladder, T.n_Ladder__row, rfl, r, _, rfl, .inl (SqL.of upd_same), _, rfl, p, _, dx, _, rfl, by rw [upd_ne pr]; exact hp2, T.cl_Ladder, T.n_Ladder_many, (by show 5 < 1000; decide), ?_⟩
    have ef : putF "many" (V.int (((insR n xs).map V.int).length : Int)) (flds wd h xs.length r) = flds wd h (insR n xs).length r := by
      rw [List.length_map]
      rfl
    rw [ef]
    have hp3 : upd (upd H2 r (.lst ((insR n xs).map V.int))) p (.ins T.c_Ladder dx (flds wd h (insR n xs).length r)) p = some (.ins T.c_Ladder dx (flds wd h (insR n xs).length r)) := upd_same
    have hr3 : upd (upd H2 r (.lst ((insR n xs).map V.int))) p (.ins T.c_Ladder dx (flds wd h (insR n xs).length r)) r = some (.lst ((insR n xs).map V.int)) := by rw [upd_ne pr.symm, upd_same]
    have g3 : Same G (upd (upd H2 r (.lst ((insR n xs).map V.int))) p (.ins T.c_Ladder dx (flds wd h (insR n xs).length r))) := fun b u e => by
      rw [upd_ne (ne_of_none e (v.out p f1)), upd_ne (ne_of_none e (v.out r f2))]
      exact v2.sub _ _ e
    revert hp3 hr3 g3
    generalize upd (upd H2 r (.lst ((insR n xs).map V.int))) p (.ins T.c_Ladder dx (flds wd h (insR n xs).length r)) = H3
    intro hp3 hr3 g3
    have hL3 : LadP T.c_Ladder H3 p wd h (insR n xs) F := ⟨ok.ins a b, dx, r, hp3, hr3, f1, f2, f3⟩
    have nin : n ∈ insR n xs := mem_insR.mpr (.inl rfl)
    refine ⟨_, rfl, p, dx, _, rfl, hp3, rfl, _, rfl, p, wd, h, insR n xs, F, n, rfl, hL3, by rw [insR_len nx]; omega, nin, fun H4 y s4 ny hy => ?_⟩
    have cl := cntN_le wd h (insR n xs) n
    have h12 := ok.h12
    refine ⟨y, _, rfl, SqL.of hy, fun D nD => ?_⟩
    have thr : ∀ b, F b → ∃ o, H4 b = some o := fun b fb => (theRep T).there ((theRep T).same hL3 s4) b fb
    refine lc_enumL (K := K) (xs := heirL wd h (insR n xs) n) (fun i H' => ∃ G1 us, Made G H4 G1 H' D F us ((List.range i).map fun l => dCh l (some n) (mateO wd xs n l)) ∧ us.length = i) ⟨G, [], ⟨Evl.Ex.refl _, (g3.trans s4).trans (same_upd nD), same_upd nD, v.out, thr, Same.free (g3.trans s4) nD, nD, upd_same, .nil⟩, rfl⟩ (fun i H' hi => ?_) (fun i x T1 H' hx hi nT => ?_) (fun H' hi => ?_)
    · obtain ⟨G1, us, m, _⟩ := hi
      exact SqL.of (m.hc _ _ hy)
    · obtain ⟨G1, us, m, ul⟩ := hi
      have ex := heirL_at hx
      rw [insR_mate] at ex
      subst ex
      have hi2 : i < cntN wd h (insR n xs) n := by
        have := (List.getElem?_eq_some_iff.mp hx).1
        rw [heirL_len] at this
        exact this
      refine ⟨T1, _, rfl, SqT.of upd_same, rfl, _, _, rfl, _, _, rfl, rfl, rfl, ?_⟩
      dsimp only [tYes]
      rw [if_pos rfl]
      refine ⟨_, rfl, _, rfl, _, rfl, (by show 3 ≤ sizeLine; decide), fun t nt => ⟨us, ?_, small1000 (by omega), ?_⟩⟩
      · have Dt : D ≠ t := fun e => by
          subst e
          have z : upd H' T1 (.tup [.int (i : Int), oV (mateO wd xs n i)]) D = some (.lst us) := by rw [upd_ne (ne_of_none m.eD nT)]; exact m.eD
          rw [z] at nt
          cases nt
        rw [upd_ne Dt, upd_ne (ne_of_none m.eD nT)]
        exact m.eD
      · refine ⟨upd G1 t (.tup [.int (i : Int), .int n, oV (mateO wd xs n i)]), us ++ [.ref t], ?_, by rw [List.length_append, ul]; rfl⟩
        rw [List.range_succ, List.map_append]
        exact m.step nT nt fun G2 => dhAll_ch i (some n) (mateO wd xs n i)
    · obtain ⟨G1, us, m, ul⟩ := hi
      rw [heirL_len, insR_cnt, ← chPut_cnt ok.w2] at m
      have gn : Same G1 (upd G1 D (.lst us)) := same_upd m.gD
      have hL5 : (theRep T).Lad H' p wd h (insR n xs) F := (theRep T).same ((theRep T).same hL3 s4) m.hc
      refine good a b nx H' (upd G1 D (.lst us)) F D us ⟨hL5, fun c u e => ?_, fun c fc => ?_⟩ (m.g1.trans gn) (Same.free m.g1 m.gD) upd_same (m.all.same gn)
      · by_cases hc : c = D
        · subst hc
          rw [upd_same] at e
          rw [← e]
          exact m.eD
        · rw [upd_ne hc] at e
          exact m.sub _ _ e
      · have hc : c ≠ D := fun z => by
          obtain ⟨o, e⟩ := m.there c fc
          rw [z, m.nD] at e
          cases e
        rw [upd_ne hc]
        exact m.out c fc
theorem ok_ladder_take (T : Txt K mg) : FnOk P w K mg base (L2.CX P w) 5 T.f_ladder_take T.fd_ladder_take ["self", "number"] (sp_ladder_take T (theRep T)) := by
  have G_ladder_heirs : FnOk P w K mg base CX0 4 T.f_ladder_heirs T.fd_ladder_heirs ["self", "number"] (sp_ladder_heirs T (theRep T)) := ok_ladder_heirs T
  have G_ladder_has : FnOk P w K mg base (L2.CX P w) 2 T.f_ladder_has T.fd_ladder_has ["self", "number"] (sp_ladder_has T (theRep T)) := ok_ladder_has T
  refine T.F_ladder_take.okX sc_ladder_take (fun vs H Q E h => ?_) (fun cdv A outer s H vs Q E hr h => ?_)
  · obtain ⟨p, wd, h, xs, F, G, n, rfl, _⟩ := h
    rfl
  · obtain ⟨p, wd, h, xs, F, G, n, rfl, v, hlen, bad, miss, good⟩ := h
    refine ⟨_, (pss_cons (ps_if (pt_not (pt_val (pe_meth (pv 0) T.cl_Ladder T.m_ladder_has G_ladder_has (hr.mono (by decide)) T.bd_ladder_has .nil (passes_call (takes_of rfl rfl rfl rfl) (fun _ _ _ _ h => h)) (pa_cons (pv 1) pa_nil)))) (pss_one (ps_raise rfl (takes_of rfl rfl rfl rfl) (pmk_own PySem.F.excBase_ValueError T.xp_Missing T.x_Missing T.kp_Missing (raises_own T.bp_Missing T.tp_Missing) (by rfl)))) pss_nil)
      (pss_cons (ps_set (i := 2) sc_ladder_take.nd rfl (.inl rfl) (pe_meth (pv 0) T.cl_Ladder T.m_ladder_heirs G_ladder_heirs hr T.bd_ladder_heirs .nil pass0 (pa_cons (pv 1) pa_nil)))
      (pss_cons (ps_expr (pe_bm PySem.F.plainAttrs_list PySem.F.slot_list_remove PySem.F.type_list_remove mt_remove (pe_fld (pv 0) rfl) (pa_cons (pv 1) pa_nil)))
      (pss_cons (ps_fld (pv 0) (pe_callB call_len_seq (by rfl) T.b_len PySem.boot_len (pa_cons (pe_fld (pv 0) rfl) pa_nil)) rfl)
      (pss_one (ps_ret (pe_lc (own := [("level", 3), ("came", 4)]) (g := gTup K 2 (gCons (gName 3) (gCons (gName 4) gNil))) (by rfl) sc_ladder_take.nd (pi_enum (by rfl) T.b_enumerate (pa_cons (pv 2) pa_nil)) (blkOk_by (own := [("level", 3), ("came", 4)]) (N := ["self", "number", "heirs", "level", "came"]) (sc := defScope s_ladder_take) (by decide +kernel)) (fun _ _ _ _ _ => (pg_tup rfl (pgs_cons (pg_name (i := 3) sc_ladder_take.nd rfl (Or.inl rfl)) (pgs_cons (pg_name (i := 4) sc_ladder_take.nd rfl (Or.inl rfl)) pgs_nil)))) (fun _ _ _ _ _ => pts_nil) (fun _ _ _ _ _ => (pe_tup (pa_cons (pv 3) (pa_cons (pv 4) (pa_cons (pv 1) pa_nil)))))))))))), ?_⟩
    have hL := v.lad
    obtain ⟨dx, r, hp, hr', f1, f2, f3⟩ := hL.has
    have ok := hL.ok
    refine ⟨_, rfl, p, dx, _, rfl, hp, rfl, _, rfl, p, wd, h, xs, F, n, rfl, hL, by omega, bad, fun a b H1 s1 => ?_⟩
    refine ⟨_, rfl, ?_⟩
    by_cases nx : n ∈ xs
    · rw [decide_eq_true nx]
      refine iteF ?_
      have hL1 := (theRep T).same hL s1
      have hp1 := s1 _ _ hp
      refine ⟨_, rfl, p, dx, _, rfl, hp1, rfl, _, rfl, p, wd, h, xs, F, n, rfl, hL1, by omega, nx, fun H2 y s2 ny hy => ?_⟩
      have hp2 := s2 _ _ hp1
      have hr2 := s2 _ _ (s1 _ _ hr')
      have lt := place_lt ok.rise nx
      have pr : p ≠ r := ne_of hp hr' (by intro z; cases z)
      have yr : y ≠ r := (ne_of_none (s1 _ _ hr') ny).symm
      have yp : y ≠ p := (ne_of_none hp1 ny).symm
      refine ⟨_, rfl, p, _, dx, _, _, rfl, hp2, T.cl_Ladder, T.n_Ladder__row, rfl, .inl ⟨rfl, _, SqL.of hr2⟩, _, rfl, r, xs, n, placeN xs n, rfl, rfl, hr2, at_place ok.rise nx, fun m hm e => ?_, ?_⟩
      · have m1 : m < xs.length := by omega
        have := rise_getD ok.rise hm lt
        rw [getD_eq m1, getD_eq lt] at this
        have e1 := at_place ok.rise nx
        rw [List.getElem?_eq_getElem lt] at e1
        rw [List.getElem?_eq_getElem m1] at e
        have e1 := Option.some.inj e1
        have e := Option.some.inj e
        omega
      rw [remR_at ok.rise nx]
      have v2 : View (theRep T) G H2 p wd h xs F := v.grow (s1.trans s2)
      refine ⟨_, rfl, p, _, dx, _, _, rfl, by rw [upd_ne pr]; exact hp2, T.cl_Ladder, T.n_Ladder__row, rfl, r, _, rfl, .inl (SqL.of upd_same), _, rfl, p, _, dx, _, rfl, by rw [upd_ne pr]; exact hp2, T.cl_Ladder, T.n_Ladder_many, (by show 5 < 1000; decide), ?_⟩
      have ef : putF "many" (V.int (((remR n xs).map V.int).length : Int)) (flds wd h xs.length r) = flds wd h (remR n xs).length r := by
        rw [List.length_map]
        rfl
      rw [ef]
      have hp3 : upd (upd H2 r (.lst ((remR n xs).map V.int))) p (.ins T.c_Ladder dx (flds wd h (remR n xs).length r)) p = some (.ins T.c_Ladder dx (flds wd h (remR n xs).length r)) := upd_same
      have hr3 : upd (upd H2 r (.lst ((remR n xs).map V.int))) p (.ins T.c_Ladder dx (flds wd h (remR n xs).length r)) r = some (.lst ((remR n xs).map V.int)) := by rw [upd_ne pr.symm, upd_same]
      have hy3 : upd (upd H2 r (.lst ((remR n xs).map V.int))) p (.ins T.c_Ladder dx (flds wd h (remR n xs).length r)) y = some (.lst (heirL wd h xs n)) := by
        rw [upd_ne yp, upd_ne yr]
        exact hy
      have g3 : Same G (upd (upd H2 r (.lst ((remR n xs).map V.int))) p (.ins T.c_Ladder dx (flds wd h (remR n xs).length r))) := fun b u e => by
        rw [upd_ne (ne_of_none e (v.out p f1)), upd_ne (ne_of_none e (v.out r f2))]
        exact v2.sub _ _ e
      revert hp3 hr3 g3 hy3
      generalize upd (upd H2 r (.lst ((remR n xs).map V.int))) p (.ins T.c_Ladder dx (flds wd h (remR n xs).length r)) = H4
      intro hp3 hr3 hy4 g3
      have hL3 : LadP T.c_Ladder H4 p wd h (remR n xs) F := ⟨ok.rem, dx, r, hp3, hr3, f1, f2, f3⟩
      have cl := cntN_le wd h xs n
      have h12 := ok.h12
      refine ⟨_, rfl, y, _, rfl, SqL.of hy4, fun D nD => ?_⟩
      have thr : ∀ b, F b → ∃ o, H4 b = some o := fun b fb => (theRep T).there hL3 b fb
      refine lc_enumL (K := K) (xs := heirL wd h xs n) (fun i H' => ∃ G1 us, Made G H4 G1 H' D F us ((List.range i).map fun l => dCh l (mateO wd xs n l) (some n)) ∧ us.length = i) ⟨G, [], ⟨Evl.Ex.refl _, g3.trans (same_upd nD), same_upd nD, v.out, thr, Same.free g3 nD, nD, upd_same, .nil⟩, rfl⟩ (fun i H' hi => ?_) (fun i x T1 H' hx hi nT => ?_) (fun H' hi => ?_)
      · obtain ⟨G1, us, m, _⟩ := hi
        exact SqL.of (m.hc _ _ hy4)
      · obtain ⟨G1, us, m, ul⟩ := hi
        have ex := heirL_at hx
        subst ex
        have hi2 : i < cntN wd h xs n := by
          have := (List.getElem?_eq_some_iff.mp hx).1
          rw [heirL_len] at this
          exact this
        refine ⟨T1, _, rfl, SqT.of upd_same, rfl, _, _, rfl, _, _, rfl, rfl, rfl, ?_⟩
        dsimp only [tYes]
        rw [if_pos rfl]
        refine ⟨_, rfl, _, rfl, _, rfl, (by show 3 ≤ sizeLine; decide), fun t nt => ⟨us, ?_, small1000 (by omega), ?_⟩⟩
        · have Dt : D ≠ t := fun e => by
            subst e
            have z : upd H' T1 (.tup [.int (i : Int), oV (mateO wd xs n i)]) D = some (.lst us) := by rw [upd_ne (ne_of_none m.eD nT)]; exact m.eD
            rw [z] at nt
            cases nt
          rw [upd_ne Dt, upd_ne (ne_of_none m.eD nT)]
          exact m.eD
        · refine ⟨upd G1 t (.tup [.int (i : Int), oV (mateO wd xs n i), .int n]), us ++ [.ref t], ?_, by rw [List.length_append, ul]; rfl⟩
          rw [List.range_succ, List.map_append]
          exact m.step nT nt fun G2 => dhAll_ch i (mateO wd xs n i) (some n)
      · obtain ⟨G1, us, m, ul⟩ := hi
        rw [heirL_len, ← chTake_cnt ok.w2] at m
        have gn : Same G1 (upd G1 D (.lst us)) := same_upd m.gD
        have hL5 : (theRep T).Lad H' p wd h (remR n xs) F := (theRep T).same hL3 m.hc
        refine good nx H' (upd G1 D (.lst us)) F D us ⟨hL5, fun c u e => ?_, fun c fc => ?_⟩ (m.g1.trans gn) (Same.free m.g1 m.gD) upd_same (m.all.same gn)
        · by_cases hc : c = D
          · subst hc
            rw [upd_same] at e
            rw [← e]
            exact m.eD
          · rw [upd_ne hc] at e
            exact m.sub _ _ e
        · have hc : c ≠ D := fun z => by
            obtain ⟨o, e⟩ := m.there c fc
            rw [z, m.nD] at e
            cases e
          rw [upd_ne hc]
          exact m.out c fc
    · rw [decide_eq_false nx]
      exact iteT (miss a b nx H1 s1)
theorem ok_ladder_row (T : Txt K mg) : FnOk P w K mg base CX0 1 T.f_ladder_row T.fd_ladder_row ["self"] (sp_ladder_row T (theRep T)) := by
  refine T.F_ladder_row.ok sc_ladder_row (fun vs H Q E h => ?_) (fun cdv A outer s H vs Q E hr h => ?_)
  · obtain ⟨p, wd, h, xs, F, rfl, _⟩ := h
    rfl
  · obtain ⟨p, wd, h, xs, F, rfl, hL, hlen, q⟩ := h
    refine ⟨_, (pss_one (ps_ret (pe_callTy call_list_of (by rfl) T.b_list (by decide +kernel) (pa_cons (pe_fld (pv 0) rfl) pa_nil)))), ?_⟩
    obtain ⟨dx, r, hp, hr', f1, f2, f3⟩ := hL.has
    exact ⟨_, rfl, p, _, dx, _, _, rfl, hp, T.cl_Ladder, T.n_Ladder__row, rfl, r, _, rfl, .inl (SqL.of hr'), fun b nb => q _ b (same_upd nb) nb upd_same⟩
def sp_ladder_check_level (T : Txt K mg) (R : Rep K T.c_Ladder) : Sp := fun vs H Q E => ∃ (p : Addr) (w : Int) (h : Nat) (xs : List Int) (F : Addr → Prop) (n : Int), vs = [.ref p, .int n] ∧ R.Lad H p w h xs F ∧
  ((n < 0 ∨ (h : Int) < n) → E (.ref T.c_NoLevel) none H) ∧ (0 ≤ n → n ≤ (h : Int) → Q .non H)
theorem ok_ladder_check_level (T : Txt K mg) : FnOk P w K mg base (L2.CX P w) 1 T.f_ladder_check_level T.fd_ladder_check_level ["self", "level"] (sp_ladder_check_level T (theRep T)) := by
  refine T.F_ladder_check_level.okX sc_ladder_check_level (fun vs H Q E h => ?_) (fun cdv A outer s H vs Q E hr h => ?_)
  · obtain ⟨p, wd, h, xs, F, n, rfl, _⟩ := h
    rfl
  · obtain ⟨p, wd, h, xs, F, n, rfl, hL, bad, good⟩ := h
    refine ⟨_, (pss_one (ps_if (PW.pt (pw_or (pt_cmpR op_lt (pv 1) pe_int (nomark _)) (pw_or1 (pt_cmpR op_gt (pv 1) (pe_fld (pv 0) rfl) (nomark _))))) (pss_one (ps_raise rfl (takes_of rfl rfl rfl rfl) (pmk_own PySem.F.excBase_ValueError T.xp_NoLevel T.x_NoLevel T.kp_NoLevel (raises_own T.bp_NoLevel T.tp_NoLevel) (by rfl)))) pss_nil)), ?_⟩
    obtain ⟨dx, r, hp, hr', f1, f2, f3⟩ := hL.has
    refine ⟨_, rfl, _, _, rfl, rfl, _, rfl, ite2 (fun c => iteT (bad (.inl (of_decide_eq_true c)))) (fun c => ?_)⟩
    refine ⟨_, rfl, _, rfl, p, _, dx, _, _, rfl, hp, T.cl_Ladder, T.n_Ladder_high, rfl, _, _, rfl, rfl, _, rfl, ite2 (fun c2 => bad (.inr (of_decide_eq_true c2))) (fun c2 => good ?_ ?_)⟩
    · have z : ¬ n < 0 := fun q => c (decide_eq_true q)
      omega
    · have z : ¬ (h : Int) < n := fun q => c2 (decide_eq_true q)
      omega
theorem ok_ladder_level (T : Txt K mg) : FnOk P w K mg base (L2.CX P w) 4 T.f_ladder_level T.fd_ladder_level ["self", "level"] (sp_ladder_level T (theRep T)) := by
  have G_ladder_check_level : FnOk P w K mg base (L2.CX P w) 1 T.f_ladder_check_level T.fd_ladder_check_level ["self", "level"] (sp_ladder_check_level T (theRep T)) := ok_ladder_check_level T
  have G_thinned : FnOk P w K mg base CX0 3 T.f_thinned T.fd_thinned ["width", "level", "row"] (sp_thinned K) := ok_thinned T
  refine T.F_ladder_level.okX sc_ladder_level (fun vs H Q E h => ?_) (fun cdv A outer s H vs Q E hr h => ?_)
  · obtain ⟨p, wd, h, xs, F, L, rfl, _⟩ := h
    rfl
  · obtain ⟨p, wd, h, xs, F, L, rfl, hL, hlen, bad, good⟩ := h
    refine ⟨_, (pss_cons (ps_expr (pe_meth (pv 0) T.cl_Ladder T.m_ladder_check_level G_ladder_check_level (hr.mono (by decide)) T.bd_ladder_check_level .nil (passes_call (takes_of rfl rfl rfl rfl) (fun _ _ _ _ h => h)) (pa_cons (pv 1) pa_nil)))
      (pss_one (ps_ret (pe_call G_thinned hr (by rfl) T.g_thinned T.F_thinned.kp T.bd_thinned .nil pass0 (pa_cons (pe_fld (pv 0) rfl) (pa_cons (pv 1) (pa_cons (pe_fld (pv 0) rfl) pa_nil))))))), ?_⟩
    obtain ⟨dx, r, hp, hr', f1, f2, f3⟩ := hL.has
    have ok := hL.ok
    refine ⟨_, rfl, p, dx, _, rfl, hp, rfl, _, rfl, p, wd, h, xs, F, L, rfl, hL, fun c => bad c H (Evl.Ex.refl _), fun a b => ?_⟩
    obtain ⟨l, rfl⟩ : ∃ l : Nat, L = (l : Int) := ⟨L.toNat, by omega⟩
    have h12 := ok.h12
    refine ⟨_, rfl, p, _, dx, _, _, rfl, hp, T.cl_Ladder, T.n_Ladder_width, rfl, _, rfl, _, rfl, p, _, dx, _, _, rfl, hp, T.cl_Ladder, T.n_Ladder__row, rfl, wd, l, r, xs, rfl, ok.w2, ok.w9, by omega, SqL.of hr', by omega, fun H' o s1 no ho => ?_⟩
    exact good l rfl (by omega) H' o s1 no ho
def sp_ladder_begin (T : Txt K mg) (R : Rep K T.c_Ladder) : Sp := fun vs H Q _ => ∃ (p : Addr) (w : Int) (h : Nat) (xs : List Int) (F : Addr → Prop) (l : Nat) (n : Int), vs = [.ref p, .int (l : Int), .int n] ∧ R.Lad H p w h xs F ∧ l ≤ h ∧ Q (.int (beginN w l n)) H
theorem ok_ladder_begin (T : Txt K mg) : FnOk P w K mg base CX0 3 T.f_ladder_begin T.fd_ladder_begin ["self", "level", "number"] (sp_ladder_begin T (theRep T)) := by
  have G_block : FnOk P w K mg base CX0 2 T.f_block T.fd_block ["width", "level", "number"] (sp_block K) := ok_block T
  have G_power : FnOk P w K mg base CX0 1 T.f_power T.fd_power ["width", "level"] (sp_power K) := ok_power T
  refine T.F_ladder_begin.ok sc_ladder_begin (fun vs H Q E h => ?_) (fun cdv A outer s H vs Q E hr h => ?_)
  · obtain ⟨p, wd, h, xs, F, l, n, rfl, _⟩ := h
    rfl
  · obtain ⟨p, wd, h, xs, F, l, n, rfl, hL, hl, q⟩ := h
    refine ⟨_, (pss_one (ps_ret (pe_op op_mul (pe_call G_block hr (by rfl) T.g_block T.F_block.kp T.bd_block .nil pass0 (pa_cons (pe_fld (pv 0) rfl) (pa_cons (pv 1) (pa_cons (pv 2) pa_nil)))) (pe_call G_power (hr.mono (by decide)) (by rfl) T.g_power T.F_power.kp T.bd_power .nil pass0 (pa_cons (pe_fld (pv 0) rfl) (pa_cons (pv 1) pa_nil)))))), ?_⟩
    obtain ⟨dx, r, hp, hr', f1, f2, f3⟩ := hL.has
    have ok := hL.ok
    have h12 := ok.h12
    have p0 := pow_pos' ok.w2 l
    have p1 := pow_le12 ok.w2 ok.w9 (show l ≤ 12 by omega)
    exact ⟨_, rfl, p, _, dx, _, _, rfl, hp, T.cl_Ladder, T.n_Ladder_width, rfl, _, rfl, _, rfl, wd, l, n, rfl, ok.w2, ok.w9, by omega, _, rfl, p, _, dx, _, _, rfl, hp, T.cl_Ladder, T.n_Ladder_width, rfl, _, rfl, wd, l, rfl, ok.w2, ok.w9, by omega, _, _, rfl, rfl, .inr ⟨by omega, by omega⟩, q⟩
def sp_ladder_reach (T : Txt K mg) (R : Rep K T.c_Ladder) : Sp := fun vs H Q _ => ∃ (p : Addr) (w : Int) (h : Nat) (xs : List Int) (F : Addr → Prop) (l k : Nat), vs = [.ref p, .int (l : Int), .int (k : Int)] ∧ R.Lad H p w h xs F ∧ xs.length ≤ 150 ∧ l ≤ h ∧ k < xs.length ∧ ∀ H', Same H H' → Q (.int (reachN w l xs k : Int)) H'
theorem ok_ladder_reach (T : Txt K mg) : FnOk P w K mg base CX0 4 T.f_ladder_reach T.fd_ladder_reach ["self", "level", "spot"] (sp_ladder_reach T (theRep T)) := by
  have G_ladder_begin : FnOk P w K mg base CX0 3 T.f_ladder_begin T.fd_ladder_begin ["self", "level", "number"] (sp_ladder_begin T (theRep T)) := ok_ladder_begin T
  have G_ladder_spot : FnOk P w K mg base CX0 1 T.f_ladder_spot T.fd_ladder_spot ["self", "number"] (sp_ladder_spot T (theRep T)) := ok_ladder_spot T
  have G_power : FnOk P w K mg base CX0 1 T.f_power T.fd_power ["width", "level"] (sp_power K) := ok_power T
  refine T.F_ladder_reach.ok sc_ladder_reach (fun vs H Q E h => ?_) (fun cdv A outer s H vs Q E hr h => ?_)
  · obtain ⟨p, wd, h, xs, F, l, k, rfl, _⟩ := h
    rfl
  · obtain ⟨p, wd, h, xs, F, l, k, rfl, hL, hlen, hl, hk, q⟩ := h
    refine ⟨_, (pss_cons (ps_set (i := 3) sc_ladder_reach.nd rfl (.inl rfl) (pe_meth (pv 0) T.cl_Ladder T.m_ladder_begin G_ladder_begin hr T.bd_ladder_begin .nil pass0 (pa_cons (pv 1) (pa_cons (pe_ix ix_list (pe_fld (pv 0) rfl) (pv 2) (fun _ _ => rfl)) pa_nil))))
      (pss_one (ps_ret (pe_meth (pv 0) T.cl_Ladder T.m_ladder_spot G_ladder_spot (hr.mono (by decide)) T.bd_ladder_spot .nil pass0 (pa_cons (pe_op op_add (pv 3) (pe_call G_power (hr.mono (by decide)) (by rfl) T.g_power T.F_power.kp T.bd_power .nil pass0 (pa_cons (pe_fld (pv 0) rfl) (pa_cons (pv 1) pa_nil)))) pa_nil))))), ?_⟩
    obtain ⟨dx, r, hp, hr', f1, f2, f3⟩ := hL.has
    have ok := hL.ok
    have h12 := ok.h12
    refine ⟨_, rfl, p, dx, _, rfl, hp, rfl, _, rfl, _, rfl, p, _, dx, _, _, rfl, hp, T.cl_Ladder, T.n_Ladder__row, rfl, _, rfl, r, _, _, _, rfl, rfl, SqL.of hr', atI_nat (map_at hk), p, wd, h, xs, F, l, _, rfl, hL, hl, ?_⟩
    refine ⟨_, rfl, p, dx, _, rfl, hp, rfl, _, rfl, _, rfl, p, _, dx, _, _, rfl, hp, T.cl_Ladder, T.n_Ladder_width, rfl, _, rfl, wd, l, rfl, ok.w2, ok.w9, by omega, _, _, rfl, rfl, p, wd, h, xs, F, _, rfl, hL, by omega, fun H' s1 => q H' s1⟩
theorem ok_ladder_ahead (T : Txt K mg) : FnOk P w K mg base (L2.CX P w) 5 T.f_ladder_ahead T.fd_ladder_ahead ["self", "level", "number"] (sp_ladder_ahead T (theRep T)) := by
  have G_ladder_check_level : FnOk P w K mg base (L2.CX P w) 1 T.f_ladder_check_level T.fd_ladder_check_level ["self", "level"] (sp_ladder_check_level T (theRep T)) := ok_ladder_check_level T
  have G_ladder_begin : FnOk P w K mg base CX0 3 T.f_ladder_begin T.fd_ladder_begin ["self", "level", "number"] (sp_ladder_begin T (theRep T)) := ok_ladder_begin T
  have G_ladder_spot : FnOk P w K mg base CX0 1 T.f_ladder_spot T.fd_ladder_spot ["self", "number"] (sp_ladder_spot T (theRep T)) := ok_ladder_spot T
  have G_ladder_reach : FnOk P w K mg base CX0 4 T.f_ladder_reach T.fd_ladder_reach ["self", "level", "spot"] (sp_ladder_reach T (theRep T)) := ok_ladder_reach T
  have G_ladder_at_or_none : FnOk P w K mg base CX0 1 T.f_ladder_at_or_none T.fd_ladder_at_or_none ["self", "spot"] (sp_ladder_at_or_none T (theRep T)) := ok_ladder_at_or_none T
  refine T.F_ladder_ahead.okX sc_ladder_ahead (fun vs H Q E h => ?_) (fun cdv A outer s H vs Q E hr h => ?_)
  · obtain ⟨p, wd, h, xs, F, L, n, rfl, _⟩ := h
    rfl
  · obtain ⟨p, wd, h, xs, F, L, n, rfl, hL, hlen, bad, miss, good⟩ := h
    refine ⟨_, (pss_cons (ps_expr (pe_meth (pv 0) T.cl_Ladder T.m_ladder_check_level G_ladder_check_level (hr.mono (by decide)) T.bd_ladder_check_level .nil (passes_call (takes_of rfl rfl rfl rfl) (fun _ _ _ _ h => h)) (pa_cons (pv 1) pa_nil)))
      (pss_cons (ps_set (i := 3) sc_ladder_ahead.nd rfl (.inl rfl) (pe_meth (pv 0) T.cl_Ladder T.m_ladder_begin G_ladder_begin (hr.mono (by decide)) T.bd_ladder_begin .nil pass0 (pa_cons (pv 1) (pa_cons (pv 2) pa_nil))))
      (pss_cons (ps_set (i := 4) sc_ladder_ahead.nd rfl (.inl rfl) (pe_meth (pv 0) T.cl_Ladder T.m_ladder_spot G_ladder_spot (hr.mono (by decide)) T.bd_ladder_spot .nil pass0 (pa_cons (pv 3) pa_nil)))
      (pss_cons (ps_if (pt_cmpR op_ne (pe_meth (pv 0) T.cl_Ladder T.m_ladder_at_or_none G_ladder_at_or_none (hr.mono (by decide)) T.bd_ladder_at_or_none .nil pass0 (pa_cons (pv 4) pa_nil)) (pv 2) (nomark _)) (pss_one (ps_raise rfl (takes_of rfl rfl rfl rfl) (pmk_own PySem.F.excBase_ValueError T.xp_Missing T.x_Missing T.kp_Missing (raises_own T.bp_Missing T.tp_Missing) (by rfl)))) pss_nil)
      (pss_cons (ps_set (i := 5) sc_ladder_ahead.nd rfl (.inl rfl) (pe_meth (pv 0) T.cl_Ladder T.m_ladder_reach G_ladder_reach hr T.bd_ladder_reach .nil pass0 (pa_cons (pv 1) (pa_cons (pv 4) pa_nil))))
      (pss_one (ps_ret (pe_tup (pa_cons (pe_meth (pv 0) T.cl_Ladder T.m_ladder_at_or_none G_ladder_at_or_none (hr.mono (by decide)) T.bd_ladder_at_or_none .nil pass0 (pa_cons (pv 5) pa_nil)) (pa_cons (pe_op op_sub (pv 5) (pv 4)) pa_nil)))))))))), ?_⟩
    obtain ⟨dx, r, hp, hr', f1, f2, f3⟩ := hL.has
    have ok := hL.ok
    refine ⟨_, rfl, p, dx, _, rfl, hp, rfl, _, rfl, p, wd, h, xs, F, L, rfl, hL, fun c => bad c H (Evl.Ex.refl _), fun a b => ?_⟩
    obtain ⟨l, rfl⟩ : ∃ l : Nat, L = (l : Int) := ⟨L.toNat, by omega⟩
    have hl : l ≤ h := by omega
    refine ⟨_, rfl, p, dx, _, rfl, hp, rfl, _, rfl, _, rfl, p, wd, h, xs, F, l, n, rfl, hL, hl, ?_⟩
    refine ⟨_, rfl, p, dx, _, rfl, hp, rfl, _, rfl, p, wd, h, xs, F, _, rfl, hL, by omega, fun H1 s1 => ?_⟩
    have hL1 := (theRep T).same hL s1
    have hp1 := s1 _ _ hp
    have lb := lev_begin ok.w2 (l := l) ok.rise (n := n)
    have pl := placeN_le xs (beginN wd l n)
    refine ⟨_, rfl, p, dx, _, rfl, hp1, rfl, _, rfl, p, wd, h, xs, F, placeN xs (beginN wd l n), rfl, hL1, pl, ?_⟩
    generalize placeN xs (beginN wd l n) = k at lb pl
    by_cases hn : n ∈ levL wd l xs
    · have e := lb.mp hn
      rw [e]
      obtain ⟨hk, e2⟩ := List.getElem?_eq_some_iff.mp e
      have e3 : xs.getD k 0 = n := by rw [getD_eq hk, e2]
      refine ⟨_, rfl, rfl, _, rfl, iteNS rfl ?_⟩
      refine ⟨_, rfl, p, dx, _, rfl, hp1, rfl, _, rfl, _, rfl, p, wd, h, xs, F, l, k, rfl, hL1, hlen, hl, hk, fun H2 s2 => ?_⟩
      have hL2 := (theRep T).same hL1 s2
      have hp2 := s2 _ _ hp1
      refine ⟨_, rfl, p, dx, _, rfl, hp2, rfl, _, rfl, p, wd, h, xs, F, reachN wd l xs k, rfl, hL2, reach_le _ _ _ _, ?_⟩
      refine ⟨_, rfl, _, rfl, _, _, rfl, rfl, (by show 2 ≤ sizeLine; decide), fun t nt => ?_⟩
      refine good l rfl hl hn _ t (s1.trans (s2.trans (same_upd nt))) (Same.free (s1.trans s2) nt) ?_
      have g := gap_reach ok.w2 (l := l) ok.rise hk
      have nx := next_reach ok.w2 (l := l) ok.rise hk
      rw [e3] at g nx
      rw [upd_same, g, nx]
    · refine ⟨_, rfl, ?_⟩
      have ne : ¬ oV xs[k]? = V.int n := fun z => hn (lb.mpr (by
        cases hh : xs[k]? with
        | none =>
          rw [hh] at z
          cases z
        | some y =>
          rw [hh] at z
          rw [V.int.inj z]))
      refine ⟨?_, _, rfl, iteNT ne (miss l rfl hl hn H1 s1)⟩
      cases xs[k]? <;> rfl
def sp_ladder_walk (T : Txt K mg) (R : Rep K T.c_Ladder) : Sp := fun vs H Q _ => ∃ (p : Addr) (w : Int) (h : Nat) (xs : List Int) (F : Addr → Prop) (G : Hp) (n k : Int), vs = [.ref p, .int k] ∧ View R G H p w h xs F ∧ xs.length ≤ 150 ∧ k = (placeN xs (n + 1) : Int) - 1 ∧
  Gives R G H p w h xs F ((trailR w h xs n).map stD) Q
theorem ok_ladder_walk (T : Txt K mg) : FnOk P w K mg base CX0 5 T.f_ladder_walk T.fd_ladder_walk ["self", "last"] (sp_ladder_walk T (theRep T)) := by
  have G_ladder_reach : FnOk P w K mg base CX0 4 T.f_ladder_reach T.fd_ladder_reach ["self", "level", "spot"] (sp_ladder_reach T (theRep T)) := ok_ladder_reach T
  refine T.F_ladder_walk.ok sc_ladder_walk (fun vs H Q E h => ?_) (fun cdv A outer s H vs Q E hr h => ?_)
  · obtain ⟨p, wd, h, xs, F, G, n, k, rfl, _⟩ := h
    rfl
  · obtain ⟨p, wd, h, xs, F, G, n, k, rfl, v, hlen, hk, q⟩ := h
    refine ⟨_, (pss_cons (ps_set (i := 2) sc_ladder_walk.nd rfl (.inl rfl) (pe_lst pa_nil))
      (pss_cons (ps_if (pt_cmpR op_lt (pv 1) pe_int (nomark _)) (pss_one (ps_ret (pv 2))) pss_nil)
      (pss_cons (ps_set (i := 3) sc_ladder_walk.nd rfl (.inl rfl) (pe_fld (pv 0) rfl))
      (pss_cons (ps_set (i := 4) sc_ladder_walk.nd rfl (.inl rfl) pe_int)
      (pss_cons (ps_while PassesOwn.never (pt_cmpR op_ge (pv 3) pe_int (nomark _)) (pss_cons (ps_expr (pe_bm PySem.F.plainAttrs_list PySem.F.slot_list_append PySem.F.type_list_append mt_append (pv 2) (pa_cons (pe_tup (pa_cons (pv 3) (pa_cons (pe_ix ix_list (pe_fld (pv 0) rfl) (pv 4) (fun _ _ => rfl)) pa_nil))) pa_nil)))
      (pss_cons (ps_set (i := 5) sc_ladder_walk.nd rfl (.inl rfl) (pe_meth (pv 0) T.cl_Ladder T.m_ladder_reach G_ladder_reach hr T.bd_ladder_reach .nil pass0 (pa_cons (pv 3) (pa_cons (pv 4) pa_nil))))
      (pss_one (ps_if (pt_cmpR op_le (pv 5) (pv 1) (nomark _)) (pss_one (ps_set (i := 4) sc_ladder_walk.nd rfl (.inl rfl) (pv 5))) (pss_one (ps_set (i := 3) sc_ladder_walk.nd rfl (.inl rfl) (pe_op op_sub (pv 3) pe_int))))))))
      (pss_one (ps_ret (pv 2)))))))), ?_⟩
    have hL := v.lad
    obtain ⟨dx, r, hp, hr', f1, f2, f3⟩ := hL.has
    have ok := hL.ok
    have h12 := ok.h12
    have pl := placeN_le xs (n + 1)
    refine ⟨Nat.zero_le _, fun D nD => ?_⟩
    have hp0 : upd H D (.lst []) p = some (.ins T.c_Ladder dx (flds wd h xs.length r)) := (same_upd nD) _ _ hp
    have m0 : Made G H G (upd H D (.lst [])) D F [] [] := ⟨Evl.Ex.refl _, v.sub.trans (same_upd nD), same_upd nD, v.out, fun b fb => (theRep T).there hL b fb, Same.free v.sub nD, nD, upd_same, .nil⟩
    have fin : ∀ H' G1 us, Made G H G1 H' D F us ((trailR wd h xs n).map stD) → Q (.ref D) H' := fun H' G1 us m => by
      have gn : Same G1 (upd G1 D (.lst us)) := same_upd m.gD
      exact q H' (upd G1 D (.lst us)) D us (m.view ((theRep T).same hL m.hc)) (m.g1.trans gn) m.hc nD (Same.free m.g1 m.gD) upd_same (m.all.same gn)
    have tr := trailR_rest (w := wd) (h := h) ok.rise n
    refine ⟨_, rfl, _, _, rfl, rfl, _, rfl, ite2 (fun c => ?_) (fun c => ?_)⟩
    · have c2 : k < 0 := of_decide_eq_true c
      rw [if_pos (by omega)] at tr
      rw [tr] at fin
      exact ⟨_, rfl, fin _ _ _ m0⟩
    have c2 : ¬ k < 0 := fun z => c (decide_eq_true z)
    rw [if_neg (by omega)] at tr
    refine ⟨_, rfl, p, _, dx, _, _, rfl, hp0, T.cl_Ladder, T.n_Ladder_high, rfl, ?_⟩
    dsimp only [gName]
    refine Evl.q_asg Evl.ev_c fun H1 s1 => ?_
    show tSeq (tWhile _ _) _ _ [nR p, nI k, nR D, nI (h : Int), nI 0, none] _
    refine Evl.q_while (fun m σ H' => ∃ (lv i : Nat) (ts : List (Nat × Int)) (G1 : Hp) (us : List V) (rv : Option V), m = lv + (placeN xs (n + 1) - i) ∧ σ = [nR p, nI k, nR D, nI ((lv : Int) - 1), nI (i : Int), rv] ∧ Made G H G1 H' D F us (ts.map stD) ∧ ts ++ restW wd xs n i lv = trailR wd h xs n ∧ i < placeN xs (n + 1) ∧ lv ≤ h + 1 ∧ us.length + lv + (placeN xs (n + 1) - i) ≤ h + 1 + placeN xs (n + 1)) (h + 1 + placeN xs (n + 1))
      ⟨h + 1, 0, [], G, [], none, rfl, ?_, m0.grow s1, by rw [tr]; rfl, by omega, Nat.le_refl _, by show 0 + (h + 1) + (placeN xs (n + 1) - 0) ≤ _; omega⟩ (fun m σ H' hw => ?_)
    · rw [show ((h + 1 : Nat) : Int) - 1 = (h : Int) by omega]
      rfl
    obtain ⟨lv, i, ts, G1, us, rv, rfl, rfl, md, et, il, lh, sz⟩ := hw
    refine ⟨decide (0 ≤ (lv : Int) - 1), Evl.et_test (Evl.ev_op (Evl.ev_var rfl) Evl.ev_c Evl.rv_I0), fun hb H2 s2 => ?_, fun hb H2 s2 => ?_⟩
    · have l1 : 0 ≤ (lv : Int) - 1 := of_decide_eq_true hb
      obtain ⟨l, rfl⟩ : ∃ l : Nat, lv = l + 1 := ⟨lv - 1, by omega⟩
      have el : ((l + 1 : Nat) : Int) - 1 = (l : Int) := by omega
      rw [el]
      refine ⟨_, fun _ _ x => x, ?_⟩
      have md2 := md.grow s2
      have hp2 := md2.hc _ _ hp
      have hr2 := md2.hc _ _ hr'
      have ix : i < xs.length := by omega
      refine ⟨_, rfl, .inl ⟨rfl, _, SqL.of md2.eD⟩, _, rfl, _, rfl, p, _, dx, _, _, rfl, hp2, T.cl_Ladder, T.n_Ladder__row, rfl, _, rfl, r, _, _, _, rfl, rfl, SqL.of hr2, atI_nat (map_at ix), (by show 2 ≤ sizeLine; decide), fun t nt => ?_⟩
      refine ⟨D, us, _, rfl, rfl, by rw [upd_ne (ne_of_none md2.eD nt)]; exact md2.eD, small1000 (by omega), ?_⟩
      have md3 := md2.step0 (zs := [.int (l : Int), .int (xs.getD i 0)]) (es := [.int (l : Int), .int (xs.getD i 0)]) nt fun G2 => .cons (.int _) (.cons (.int _) .nil)
      have hL3 := (theRep T).same hL md3.hc
      have rs := restW_step ok.w2 ok.rise n l ix
      have gt := reach_gt ok.w2 (l := l) ok.rise ix
      have ul : (us ++ [V.ref t]).length = us.length + 1 := by rw [List.length_append]; rfl
      refine ⟨_, rfl, p, dx, _, rfl, md3.hc _ _ hp, rfl, _, rfl, _, rfl, p, wd, h, xs, F, l, i, rfl, hL3, hlen, by omega, ix, fun H4 s4 => ?_⟩
      have md4 := md3.grow s4
      refine ⟨_, rfl, _, rfl, _, _, rfl, rfl, _, rfl, ite2 (fun c => ?_) (fun c => ?_)⟩
      · have c3 : (reachN wd l xs i : Int) ≤ k := of_decide_eq_true c
        rw [if_pos (by omega)] at rs
        refine ⟨_, rfl, l + 1 + (placeN xs (n + 1) - reachN wd l xs i), by omega, l + 1, reachN wd l xs i, ts ++ [(l, xs.getD i 0)], _, _, nI (reachN wd l xs i : Int), rfl, ?_, by rw [List.map_append]; exact md4, ?_, by omega, lh, by omega⟩
        · rw [el]
          rfl
        · rw [← et, rs, List.append_assoc]
          rfl
      · have c3 : ¬ (reachN wd l xs i : Int) ≤ k := fun z => c (decide_eq_true z)
        rw [if_neg (by omega)] at rs
        refine ⟨_, rfl, _, _, rfl, rfl, l + (placeN xs (n + 1) - i), by omega, l, i, ts ++ [(l, xs.getD i 0)], _, _, nI (reachN wd l xs i : Int), rfl, rfl, by rw [List.map_append]; exact md4, ?_, il, by omega, by omega⟩
        rw [← et, rs, List.append_assoc]
        rfl
    · have l0 : ¬ 0 ≤ (lv : Int) - 1 := of_decide_eq_false hb
      obtain rfl : lv = 0 := by omega
      have e : ts = trailR wd h xs n := by
        rw [← et]
        exact (List.append_nil ts).symm
      rw [e] at md
      exact ⟨_, rfl, fin _ _ _ (md.grow s2)⟩
theorem ok_ladder_trail (T : Txt K mg) : FnOk P w K mg base (L2.CX P w) 6 T.f_ladder_trail T.fd_ladder_trail ["self", "number"] (sp_ladder_trail T (theRep T)) := by
  have G_ladder_check_number : FnOk P w K mg base (L2.CX P w) 1 T.f_ladder_check_number T.fd_ladder_check_number ["self", "number"] (sp_ladder_check_number T (theRep T)) := ok_ladder_check_number T
  have G_ladder_walk : FnOk P w K mg base CX0 5 T.f_ladder_walk T.fd_ladder_walk ["self", "last"] (sp_ladder_walk T (theRep T)) := ok_ladder_walk T
  have G_ladder_spot : FnOk P w K mg base CX0 1 T.f_ladder_spot T.fd_ladder_spot ["self", "number"] (sp_ladder_spot T (theRep T)) := ok_ladder_spot T
  refine T.F_ladder_trail.okX sc_ladder_trail (fun vs H Q E h => ?_) (fun cdv A outer s H vs Q E hr h => ?_)
  · obtain ⟨p, wd, h, xs, F, G, n, rfl, _⟩ := h
    rfl
  · obtain ⟨p, wd, h, xs, F, G, n, rfl, v, hlen, bad, good⟩ := h
    refine ⟨_, (pss_cons (ps_expr (pe_meth (pv 0) T.cl_Ladder T.m_ladder_check_number G_ladder_check_number (hr.mono (by decide)) T.bd_ladder_check_number .nil (passes_call (takes_of rfl rfl rfl rfl) (fun _ _ _ _ h => h)) (pa_cons (pv 1) pa_nil)))
      (pss_one (ps_ret (pe_meth (pv 0) T.cl_Ladder T.m_ladder_walk G_ladder_walk hr T.bd_ladder_walk .nil pass0 (pa_cons (pe_op op_sub (pe_meth (pv 0) T.cl_Ladder T.m_ladder_spot G_ladder_spot (hr.mono (by decide)) T.bd_ladder_spot .nil pass0 (pa_cons (pe_op op_add (pv 1) pe_int) pa_nil)) pe_int) pa_nil))))), ?_⟩
    have hL := v.lad
    obtain ⟨dx, r, hp, hr', f1, f2, f3⟩ := hL.has
    refine ⟨_, rfl, p, dx, _, rfl, hp, rfl, _, rfl, p, wd, h, xs, F, n, rfl, hL, fun c => bad c H (Evl.Ex.refl _), fun a b => ?_⟩
    refine ⟨_, rfl, p, dx, _, rfl, hp, rfl, _, rfl, p, dx, _, rfl, hp, rfl, _, rfl, _, _, rfl, rfl, p, wd, h, xs, F, n + 1, rfl, hL, by omega, fun H1 s1 => ?_⟩
    refine ⟨_, _, rfl, rfl, p, wd, h, xs, F, G, n, _, rfl, v.grow s1, hlen, rfl, fun H' G' y us v' s2 s3 ny gy e d => good a b H' G' y us v' s2 (s1.trans s3) (Same.free s1 ny) gy e d⟩
theorem ok_ladder_below (T : Txt K mg) : FnOk P w K mg base (L2.CX P w) 2 T.f_ladder_below T.fd_ladder_below ["self", "number"] (sp_ladder_below T (theRep T)) := by
  have G_ladder_check_number : FnOk P w K mg base (L2.CX P w) 1 T.f_ladder_check_number T.fd_ladder_check_number ["self", "number"] (sp_ladder_check_number T (theRep T)) := ok_ladder_check_number T
  have G_ladder_before : FnOk P w K mg base CX0 1 T.f_ladder_before T.fd_ladder_before ["self", "spot"] (sp_ladder_before T (theRep T)) := ok_ladder_before T
  have G_ladder_spot : FnOk P w K mg base CX0 1 T.f_ladder_spot T.fd_ladder_spot ["self", "number"] (sp_ladder_spot T (theRep T)) := ok_ladder_spot T
  refine T.F_ladder_below.okX sc_ladder_below (fun vs H Q E h => ?_) (fun cdv A outer s H vs Q E hr h => ?_)
  · obtain ⟨p, wd, h, xs, F, n, rfl, _⟩ := h
    rfl
  · obtain ⟨p, wd, h, xs, F, n, rfl, hL, hlen, bad, good⟩ := h
    refine ⟨_, (pss_cons (ps_expr (pe_meth (pv 0) T.cl_Ladder T.m_ladder_check_number G_ladder_check_number hr T.bd_ladder_check_number .nil (passes_call (takes_of rfl rfl rfl rfl) (fun _ _ _ _ h => h)) (pa_cons (pv 1) pa_nil)))
      (pss_one (ps_ret (pe_meth (pv 0) T.cl_Ladder T.m_ladder_before G_ladder_before hr T.bd_ladder_before .nil pass0 (pa_cons (pe_meth (pv 0) T.cl_Ladder T.m_ladder_spot G_ladder_spot hr T.bd_ladder_spot .nil pass0 (pa_cons (pe_op op_add (pv 1) pe_int) pa_nil)) pa_nil))))), ?_⟩
    obtain ⟨dx, r, hp, hr', f1, f2, f3⟩ := hL.has
    have ok := hL.ok
    refine ⟨_, rfl, p, dx, _, rfl, hp, rfl, _, rfl, p, wd, h, xs, F, n, rfl, hL, fun c => bad c H (Evl.Ex.refl _), fun a b => ?_⟩
    refine ⟨_, rfl, p, dx, _, rfl, hp, rfl, _, rfl, p, dx, _, rfl, hp, rfl, _, rfl, _, _, rfl, rfl, p, wd, h, xs, F, n + 1, rfl, hL, by omega, fun H1 s1 => ?_⟩
    have z := good a b H1 s1
    rw [belowEq_at ok.rise] at z
    exact ⟨p, wd, h, xs, F, placeN xs (n + 1), rfl, (theRep T).same hL s1, placeN_le _ _, z⟩
theorem ok_ladder_above (T : Txt K mg) : FnOk P w K mg base (L2.CX P w) 2 T.f_ladder_above T.fd_ladder_above ["self", "number"] (sp_ladder_above T (theRep T)) := by
  have G_ladder_check_number : FnOk P w K mg base (L2.CX P w) 1 T.f_ladder_check_number T.fd_ladder_check_number ["self", "number"] (sp_ladder_check_number T (theRep T)) := ok_ladder_check_number T
  have G_ladder_at_or_none : FnOk P w K mg base CX0 1 T.f_ladder_at_or_none T.fd_ladder_at_or_none ["self", "spot"] (sp_ladder_at_or_none T (theRep T)) := ok_ladder_at_or_none T
  have G_ladder_spot : FnOk P w K mg base CX0 1 T.f_ladder_spot T.fd_ladder_spot ["self", "number"] (sp_ladder_spot T (theRep T)) := ok_ladder_spot T
  refine T.F_ladder_above.okX sc_ladder_above (fun vs H Q E h => ?_) (fun cdv A outer s H vs Q E hr h => ?_)
  · obtain ⟨p, wd, h, xs, F, n, rfl, _⟩ := h
    rfl
  · obtain ⟨p, wd, h, xs, F, n, rfl, hL, hlen, bad, good⟩ := h
    refine ⟨_, (pss_cons (ps_expr (pe_meth (pv 0) T.cl_Ladder T.m_ladder_check_number G_ladder_check_number hr T.bd_ladder_check_number .nil (passes_call (takes_of rfl rfl rfl rfl) (fun _ _ _ _ h => h)) (pa_cons (pv 1) pa_nil)))
      (pss_one (ps_ret (pe_meth (pv 0) T.cl_Ladder T.m_ladder_at_or_none G_ladder_at_or_none hr T.bd_ladder_at_or_none .nil pass0 (pa_cons (pe_meth (pv 0) T.cl_Ladder T.m_ladder_spot G_ladder_spot hr T.bd_ladder_spot .nil pass0 (pa_cons (pv 1) pa_nil)) pa_nil))))), ?_⟩
    obtain ⟨dx, r, hp, hr', f1, f2, f3⟩ := hL.has
    have ok := hL.ok
    refine ⟨_, rfl, p, dx, _, rfl, hp, rfl, _, rfl, p, wd, h, xs, F, n, rfl, hL, fun c => bad c H (Evl.Ex.refl _), fun a b => ?_⟩
    refine ⟨_, rfl, p, dx, _, rfl, hp, rfl, _, rfl, p, dx, _, rfl, hp, rfl, _, rfl, p, wd, h, xs, F, n, rfl, hL, by omega, fun H1 s1 => ?_⟩
    have z := good a b H1 s1
    have e : aboveEq xs n = xs[placeN xs n]? := aboveEq_at ok.rise n
    rw [e] at z
    exact ⟨p, wd, h, xs, F, placeN xs n, rfl, (theRep T).same hL s1, placeN_le _ _, z⟩
def sp_ladder_check_end (T : Txt K mg) (R : Rep K T.c_Ladder) : Sp := fun vs H Q E => ∃ (p : Addr) (w : Int) (h : Nat) (xs : List Int) (F : Addr → Prop) (n : Int), vs = [.ref p, .int n] ∧ R.Lad H p w h xs F ∧
  ((n < 0 ∨ w ^ h < n) → E (.ref T.c_OutOfRange) none H) ∧ (0 ≤ n → n ≤ w ^ h → Q .non H)
theorem ok_ladder_check_end (T : Txt K mg) : FnOk P w K mg base (L2.CX P w) 1 T.f_ladder_check_end T.fd_ladder_check_end ["self", "number"] (sp_ladder_check_end T (theRep T)) := by
  refine T.F_ladder_check_end.okX sc_ladder_check_end (fun vs H Q E h => ?_) (fun cdv A outer s H vs Q E hr h => ?_)
  · obtain ⟨p, wd, h, xs, F, n, rfl, _⟩ := h
    rfl
  · obtain ⟨p, wd, h, xs, F, n, rfl, hL, bad, good⟩ := h
    refine ⟨_, (pss_one (ps_if (PW.pt (pw_or (pt_cmpR op_lt (pv 1) pe_int (nomark _)) (pw_or1 (pt_cmpR op_gt (pv 1) (pe_fld (pv 0) rfl) (nomark _))))) (pss_one (ps_raise rfl (takes_of rfl rfl rfl rfl) (pmk_own PySem.F.excBase_ValueError T.xp_OutOfRange T.x_OutOfRange T.kp_OutOfRange (raises_own T.bp_OutOfRange T.tp_OutOfRange) (by rfl)))) pss_nil)), ?_⟩
    obtain ⟨dx, r, hp, hr', f1, f2, f3⟩ := hL.has
    refine ⟨_, rfl, _, _, rfl, rfl, _, rfl, ite2 (fun c => iteT (bad (.inl (of_decide_eq_true c)))) (fun c => ?_)⟩
    refine ⟨_, rfl, _, rfl, p, _, dx, _, _, rfl, hp, T.cl_Ladder, T.n_Ladder_limit, rfl, _, _, rfl, rfl, _, rfl, ite2 (fun c2 => bad (.inr (of_decide_eq_true c2))) (fun c2 => good ?_ ?_)⟩
    · have z : ¬ n < 0 := fun q => c (decide_eq_true q)
      omega
    · have z : ¬ wd ^ h < n := fun q => c2 (decide_eq_true q)
      omega
theorem ok_ladder_place (T : Txt K mg) : FnOk P w K mg base (L2.CX P w) 2 T.f_ladder_place T.fd_ladder_place ["self", "number"] (sp_ladder_place T (theRep T)) := by
  have G_ladder_check_end : FnOk P w K mg base (L2.CX P w) 1 T.f_ladder_check_end T.fd_ladder_check_end ["self", "number"] (sp_ladder_check_end T (theRep T)) := ok_ladder_check_end T
  have G_ladder_spot : FnOk P w K mg base CX0 1 T.f_ladder_spot T.fd_ladder_spot ["self", "number"] (sp_ladder_spot T (theRep T)) := ok_ladder_spot T
  refine T.F_ladder_place.okX sc_ladder_place (fun vs H Q E h => ?_) (fun cdv A outer s H vs Q E hr h => ?_)
  · obtain ⟨p, wd, h, xs, F, n, rfl, _⟩ := h
    rfl
  · obtain ⟨p, wd, h, xs, F, n, rfl, hL, hlen, bad, good⟩ := h
    refine ⟨_, (pss_cons (ps_expr (pe_meth (pv 0) T.cl_Ladder T.m_ladder_check_end G_ladder_check_end hr T.bd_ladder_check_end .nil (passes_call (takes_of rfl rfl rfl rfl) (fun _ _ _ _ h => h)) (pa_cons (pv 1) pa_nil)))
      (pss_one (ps_ret (pe_meth (pv 0) T.cl_Ladder T.m_ladder_spot G_ladder_spot hr T.bd_ladder_spot .nil pass0 (pa_cons (pv 1) pa_nil))))), ?_⟩
    obtain ⟨dx, r, hp, hr', f1, f2, f3⟩ := hL.has
    refine ⟨_, rfl, p, dx, _, rfl, hp, rfl, _, rfl, p, wd, h, xs, F, n, rfl, hL, fun c => bad c H (Evl.Ex.refl _), fun a b => ?_⟩
    exact ⟨_, rfl, p, dx, _, rfl, hp, rfl, _, rfl, p, wd, h, xs, F, n, rfl, hL, by omega, fun H1 s1 => good a b H1 s1⟩
def sp_ladder_check_place (T : Txt K mg) (R : Rep K T.c_Ladder) : Sp := fun vs H Q E => ∃ (p : Addr) (w : Int) (h : Nat) (xs : List Int) (F : Addr → Prop) (n : Int), vs = [.ref p, .int n] ∧ R.Lad H p w h xs F ∧
  ((n < 0 ∨ (xs.length : Int) ≤ n) → E (.ref T.c_NoPlace) none H) ∧ (0 ≤ n → n < (xs.length : Int) → Q .non H)
theorem ok_ladder_check_place (T : Txt K mg) : FnOk P w K mg base (L2.CX P w) 1 T.f_ladder_check_place T.fd_ladder_check_place ["self", "place"] (sp_ladder_check_place T (theRep T)) := by
  refine T.F_ladder_check_place.okX sc_ladder_check_place (fun vs H Q E h => ?_) (fun cdv A outer s H vs Q E hr h => ?_)
  · obtain ⟨p, wd, h, xs, F, n, rfl, _⟩ := h
    rfl
  · obtain ⟨p, wd, h, xs, F, n, rfl, hL, bad, good⟩ := h
    refine ⟨_, (pss_one (ps_if (PW.pt (pw_or (pt_cmpR op_lt (pv 1) pe_int (nomark _)) (pw_or1 (pt_cmpR op_ge (pv 1) (pe_fld (pv 0) rfl) (nomark _))))) (pss_one (ps_raise rfl (takes_of rfl rfl rfl rfl) (pmk_own PySem.F.excBase_ValueError T.xp_NoPlace T.x_NoPlace T.kp_NoPlace (raises_own T.bp_NoPlace T.tp_NoPlace) (by rfl)))) pss_nil)), ?_⟩
    obtain ⟨dx, r, hp, hr', f1, f2, f3⟩ := hL.has
    refine ⟨_, rfl, _, _, rfl, rfl, _, rfl, ite2 (fun c => iteT (bad (.inl (of_decide_eq_true c)))) (fun c => ?_)⟩
    refine ⟨_, rfl, _, rfl, p, _, dx, _, _, rfl, hp, T.cl_Ladder, T.n_Ladder_many, rfl, _, _, rfl, rfl, _, rfl, ite2 (fun c2 => bad (.inr (of_decide_eq_true c2))) (fun c2 => good ?_ ?_)⟩
    · have z : ¬ n < 0 := fun q => c (decide_eq_true q)
      omega
    · have z : ¬ (xs.length : Int) ≤ n := fun q => c2 (decide_eq_true q)
      omega
theorem ok_ladder_at (T : Txt K mg) : FnOk P w K mg base (L2.CX P w) 2 T.f_ladder_at T.fd_ladder_at ["self", "place"] (sp_ladder_at T (theRep T)) := by
  have G_ladder_check_place : FnOk P w K mg base (L2.CX P w) 1 T.f_ladder_check_place T.fd_ladder_check_place ["self", "place"] (sp_ladder_check_place T (theRep T)) := ok_ladder_check_place T
  refine T.F_ladder_at.okX sc_ladder_at (fun vs H Q E h => ?_) (fun cdv A outer s H vs Q E hr h => ?_)
  · obtain ⟨p, wd, h, xs, F, k, rfl, _⟩ := h
    rfl
  · obtain ⟨p, wd, h, xs, F, k, rfl, hL, hlen, bad, good⟩ := h
    refine ⟨_, (pss_cons (ps_expr (pe_meth (pv 0) T.cl_Ladder T.m_ladder_check_place G_ladder_check_place hr T.bd_ladder_check_place .nil (passes_call (takes_of rfl rfl rfl rfl) (fun _ _ _ _ h => h)) (pa_cons (pv 1) pa_nil)))
      (pss_one (ps_ret (pe_ix ix_list (pe_fld (pv 0) rfl) (pv 1) (fun _ _ => rfl))))), ?_⟩
    obtain ⟨dx, r, hp, hr', f1, f2, f3⟩ := hL.has
    refine ⟨_, rfl, p, dx, _, rfl, hp, rfl, _, rfl, p, wd, h, xs, F, k, rfl, hL, fun c => bad c H (Evl.Ex.refl _), fun a b => ?_⟩
    obtain ⟨j, rfl⟩ : ∃ j : Nat, k = (j : Int) := ⟨k.toNat, by omega⟩
    exact ⟨_, rfl, p, _, dx, _, _, rfl, hp, T.cl_Ladder, T.n_Ladder__row, rfl, _, rfl, r, _, _, _, rfl, rfl, SqL.of hr', atI_nat (map_at (by omega)), good j rfl (by omega) H (Evl.Ex.refl _)⟩
theorem ok_ladder_way (T : Txt K mg) : FnOk P w K mg base (L2.CX P w) 6 T.f_ladder_way T.fd_ladder_way ["self", "place"] (sp_ladder_way T (theRep T)) := by
  have G_ladder_check_place : FnOk P w K mg base (L2.CX P w) 1 T.f_ladder_check_place T.fd_ladder_check_place ["self", "place"] (sp_ladder_check_place T (theRep T)) := ok_ladder_check_place T
  have G_ladder_walk : FnOk P w K mg base CX0 5 T.f_ladder_walk T.fd_ladder_walk ["self", "last"] (sp_ladder_walk T (theRep T)) := ok_ladder_walk T
  refine T.F_ladder_way.okX sc_ladder_way (fun vs H Q E h => ?_) (fun cdv A outer s H vs Q E hr h => ?_)
  · obtain ⟨p, wd, h, xs, F, G, k, rfl, _⟩ := h
    rfl
  · obtain ⟨p, wd, h, xs, F, G, k, rfl, v, hlen, bad, good⟩ := h
    refine ⟨_, (pss_cons (ps_expr (pe_meth (pv 0) T.cl_Ladder T.m_ladder_check_place G_ladder_check_place (hr.mono (by decide)) T.bd_ladder_check_place .nil (passes_call (takes_of rfl rfl rfl rfl) (fun _ _ _ _ h => h)) (pa_cons (pv 1) pa_nil)))
      (pss_one (ps_ret (pe_meth (pv 0) T.cl_Ladder T.m_ladder_walk G_ladder_walk hr T.bd_ladder_walk .nil pass0 (pa_cons (pv 1) pa_nil))))), ?_⟩
    have hL := v.lad
    obtain ⟨dx, r, hp, hr', f1, f2, f3⟩ := hL.has
    have ok := hL.ok
    refine ⟨_, rfl, p, dx, _, rfl, hp, rfl, _, rfl, p, wd, h, xs, F, k, rfl, hL, fun c => bad c H (Evl.Ex.refl _), fun a b => ?_⟩
    obtain ⟨j, rfl⟩ : ∃ j : Nat, k = (j : Int) := ⟨k.toNat, by omega⟩
    have jl : j < xs.length := by omega
    refine ⟨_, rfl, p, dx, _, rfl, hp, rfl, _, rfl, p, wd, h, xs, F, G, xs.getD j 0, _, rfl, v, hlen, ?_, good j rfl jl⟩
    rw [place_next ok.rise jl]
    omega
theorem ok_ladder_stretch (T : Txt K mg) : FnOk P w K mg base (L2.CX P w) 2 T.f_ladder_stretch T.fd_ladder_stretch ["self", "low", "high"] (sp_ladder_stretch T (theRep T)) := by
  have G_ladder_check_end : FnOk P w K mg base (L2.CX P w) 1 T.f_ladder_check_end T.fd_ladder_check_end ["self", "number"] (sp_ladder_check_end T (theRep T)) := ok_ladder_check_end T
  refine T.F_ladder_stretch.okX sc_ladder_stretch (fun vs H Q E h => ?_) (fun cdv A outer s H vs Q E hr h => ?_)
  · obtain ⟨p, wd, h, xs, F, lo, hi, rfl, _⟩ := h
    rfl
  · obtain ⟨p, wd, h, xs, F, lo, hi, rfl, hL, hlen, bad, good⟩ := h
    refine ⟨_, (pss_cons (ps_expr (pe_meth (pv 0) T.cl_Ladder T.m_ladder_check_end G_ladder_check_end hr T.bd_ladder_check_end .nil (passes_call (takes_of rfl rfl rfl rfl) (fun _ _ _ _ h => h)) (pa_cons (pv 1) pa_nil)))
      (pss_cons (ps_expr (pe_meth (pv 0) T.cl_Ladder T.m_ladder_check_end G_ladder_check_end hr T.bd_ladder_check_end .nil (passes_call (takes_of rfl rfl rfl rfl) (fun _ _ _ _ h => h)) (pa_cons (pv 2) pa_nil)))
      (pss_one (ps_ret (pe_lc (own := [("number", 3)]) (g := gName 3) (by rfl) sc_ladder_stretch.nd (pi_list (pe_fld (pv 0) rfl)) (blkOk_by (own := [("number", 3)]) (N := ["self", "low", "high", "number"]) (sc := defScope s_ladder_stretch) (by decide +kernel)) (fun _ _ _ _ _ => (pg_name (i := 3) sc_ladder_stretch.nd rfl (Or.inl rfl))) (fun _ _ _ _ _ => (pts_one (PW.pt (pw_and (pt_cmpR op_le (pv 1) (pv 3) (nomark _)) (pw_and1 (pt_cmpR op_lt (pv 3) (pv 2) (nomark _))))))) (fun _ _ _ _ _ => (pv 3))))))), ?_⟩
    obtain ⟨dx, r, hp, hr', f1, f2, f3⟩ := hL.has
    refine ⟨_, rfl, p, dx, _, rfl, hp, rfl, _, rfl, p, wd, h, xs, F, lo, rfl, hL, fun c => bad (by omega) H (Evl.Ex.refl _), fun a b => ?_⟩
    refine ⟨_, rfl, p, dx, _, rfl, hp, rfl, _, rfl, p, wd, h, xs, F, hi, rfl, hL, fun c => bad (by omega) H (Evl.Ex.refl _), fun a2 b2 => ?_⟩
    dsimp only
    refine Evl.s_retL (xs := (stretchL xs lo hi).map V.int) ?_ fun d H2 nd s2 hd => good a b a2 b2 H2 d s2 nd hd
    exact el_fil (fun x => decide (lo ≤ x) && decide (x < hi)) (ev_fld (Evl.ev_var rfl) hp T.cl_Ladder T.n_Ladder__row rfl) (SqL.of hr') (by omega) (fun _ => rfl) (fun x _ H1 _ => Evl.et_and (Evl.et_test (Evl.ev_op (Evl.ev_var rfl) (Evl.ev_var rfl) Evl.rv_I0)) fun _ => Evl.et_test (Evl.ev_op (Evl.ev_var rfl) (Evl.ev_var rfl) Evl.rv_I0)) (fun x _ H1 _ _ => Evl.ev_var rfl)
theorem ok_ladder_counted (T : Txt K mg) : FnOk P w K mg base (L2.CX P w) 3 T.f_ladder_counted T.fd_ladder_counted ["self", "low", "high"] (sp_ladder_counted T (theRep T)) := by
  have G_ladder_stretch : FnOk P w K mg base (L2.CX P w) 2 T.f_ladder_stretch T.fd_ladder_stretch ["self", "low", "high"] (sp_ladder_stretch T (theRep T)) := ok_ladder_stretch T
  refine T.F_ladder_counted.okX sc_ladder_counted (fun vs H Q E h => ?_) (fun cdv A outer s H vs Q E hr h => ?_)
  · obtain ⟨p, wd, h, xs, F, lo, hi, rfl, _⟩ := h
    rfl
  · obtain ⟨p, wd, h, xs, F, lo, hi, rfl, hL, hlen, bad, good⟩ := h
    refine ⟨_, (pss_one (ps_ret (pe_callB call_len_seq (by rfl) T.b_len PySem.boot_len (pa_cons (pe_meth (pv 0) T.cl_Ladder T.m_ladder_stretch G_ladder_stretch hr T.bd_ladder_stretch .nil (passes_call (takes_of rfl rfl rfl rfl) (fun _ _ _ _ h => h)) (pa_cons (pv 1) (pa_cons (pv 2) pa_nil))) pa_nil)))), ?_⟩
    obtain ⟨dx, r, hp, hr', f1, f2, f3⟩ := hL.has
    refine ⟨_, rfl, p, dx, _, rfl, hp, rfl, _, rfl, _, rfl, p, wd, h, xs, F, lo, hi, rfl, hL, hlen, bad, fun a b a2 b2 H1 d s1 nd hd => ?_⟩
    refine ⟨d, _, rfl, .inl (SqL.of hd), ?_⟩
    rw [List.length_map]
    exact good a b a2 b2 H1 s1
theorem ok_cut (T : Txt K mg) : FnOk P w K mg base (L2.CX P w) 8 T.f_cut T.fd_cut ["ladder", "number"] (sp_cut T (theRep T)) := by
  have G_ladder_stretch : FnOk P w K mg base (L2.CX P w) 2 T.f_ladder_stretch T.fd_ladder_stretch ["self", "low", "high"] (sp_ladder_stretch T (theRep T)) := ok_ladder_stretch T
  have G_ladder_init : FnOk P w K mg base (L2.CX P w) 2 T.f_ladder_init T.fd_ladder_init ["self", "width", "high"] (sp_ladder_init T (theRep T)) := ok_ladder_init T
  have G_ladder_take : FnOk P w K mg base (L2.CX P w) 5 T.f_ladder_take T.fd_ladder_take ["self", "number"] (sp_ladder_take T (theRep T)) := ok_ladder_take T
  have G_ladder_put : FnOk P w K mg base (L2.CX P w) 5 T.f_ladder_put T.fd_ladder_put ["self", "number"] (sp_ladder_put T (theRep T)) := ok_ladder_put T
  refine T.F_cut.okX sc_cut (fun vs H Q E h => ?_) (fun cdv A outer s H vs Q E hr h => ?_)
  · obtain ⟨p, wd, h, xs, F, n, rfl, _⟩ := h
    rfl
  · obtain ⟨p, wd, h, xs, F, n, rfl, hL, hlen, bad, good⟩ := h
    refine ⟨_, (pss_cons (ps_set (i := 2) sc_cut.nd rfl (.inl rfl) (pe_meth (pv 0) T.cl_Ladder T.m_ladder_stretch G_ladder_stretch (hr.mono (by decide)) T.bd_ladder_stretch .nil (passes_call (takes_of rfl rfl rfl rfl) (fun _ _ _ _ h => h)) (pa_cons (pv 1) (pa_cons (pe_fld (pv 0) rfl) pa_nil))))
      (pss_cons (ps_set (i := 3) sc_cut.nd rfl (.inl rfl) (pe_make T.mk_Ladder G_ladder_init (hr.mono (by decide)) (by rfl) T.x_Ladder T.bd_ladder_init .nil (passes_call (takes_of rfl rfl rfl rfl) (fun _ _ _ _ h => h)) (pa_cons (pe_fld (pv 0) rfl) (pa_cons (pe_fld (pv 0) rfl) pa_nil))))
      (pss_cons (ps_for (passes_of rfl) rfl (pi_list (pv 2)) (pg_name (i := 4) sc_cut.nd rfl (.inl rfl)) (pss_cons (ps_expr (pe_meth (pv 0) T.cl_Ladder T.m_ladder_take G_ladder_take (hr.mono (by decide)) T.bd_ladder_take .nil (passes_call (takes_of rfl rfl rfl rfl) (fun _ _ _ _ h => h)) (pa_cons (pv 4) pa_nil)))
      (pss_one (ps_expr (pe_meth (pv 3) T.cl_Ladder T.m_ladder_put G_ladder_put (hr.mono (by decide)) T.bd_ladder_put .nil (passes_call (takes_of rfl rfl rfl rfl) (fun _ _ _ _ h => h)) (pa_cons (pv 4) pa_nil))))))
      (pss_one (ps_ret (pv 3)))))), ?_⟩
    obtain ⟨dx, r, hp, hr', f1, f2, f3⟩ := hL.has
    have ok := hL.ok
    have pl := pow_ge2 ok.w2 ok.h1
    refine ⟨_, rfl, p, dx, _, rfl, hp, rfl, _, rfl, _, rfl, p, _, dx, _, _, rfl, hp, T.cl_Ladder, T.n_Ladder_limit, rfl, p, wd, h, xs, F, n, wd ^ h, rfl, hL, hlen, fun z => bad (by omega), fun n0 n1 _ _ H1 mv t1 nm hm => ?_⟩
    dsimp only [gName]
    have es : stretchL xs n (wd ^ h) = xs.filter fun x => decide (n ≤ x) := List.filter_congr fun x hx => by
      rw [decide_eq_true (ok.hi x hx), Bool.and_true]
    rw [es] at hm
    have hp1 := t1 _ _ hp
    refine ⟨_, rfl, p, _, dx, _, _, rfl, hp1, T.cl_Ladder, T.n_Ladder_width, rfl, _, rfl, p, _, dx, _, _, rfl, hp1, T.cl_Ladder, T.n_Ladder_high, rfl, fun y dy ny ndy ne => ⟨H1, y, dy, wd, (h : Int), rfl, rfl, ny, ndy, ne, fun z => absurd z (by have := ok.w2; have := ok.w9; have := ok.h1; have := ok.h12; omega), fun l el _ _ _ _ H2 F2 hM t2 out => ⟨rfl, ?_⟩⟩⟩
    obtain rfl : l = h := by omega
    dsimp only [gName]
    have u2 := t1.trans t2
    have okm : RowOk wd l (xs.filter fun x => decide (n ≤ x)) := ok.sub List.filter_sublist
    have km : (xs.filter fun x => decide (n ≤ x)).length ≤ 150 := Nat.le_trans (List.length_filter_le _ _) hlen
    have mr : ∀ x ∈ (xs.filter fun x => decide (n ≤ x)), x ∈ xs := fun x hx => (List.mem_filter.mp hx).1
    have lc := less_cut xs n
    have hm2 := t2 _ _ hm
    have mF : ¬ F mv := fun f => by
      obtain ⟨o, e⟩ := (theRep T).there hL mv f
      rw [nm] at e
      cases e
    have mF2 : ¬ F2 mv := fun f => by
      rw [out mv f] at hm
      cases hm
    have ap : ∀ b, F b → ¬ F2 b := fun b a c => by
      obtain ⟨o, e⟩ := (theRep T).there ((theRep T).same hL t1) b a
      rw [out b c] at e
      cases e
    have out0 : ∀ b, F2 b → H b = none := fun b f => Same.free t1 (out b f)
    revert hm2 okm km mr lc good
    generalize (xs.filter fun x => decide (n ≤ x)) = ms
    intro good okm km mr lc hm
    refine ⟨_, rfl, mv, rfl, ⟨_, SqL.of hm⟩, for_list (K := K) (a := mv) (xs := ms.map V.int) (fun i σ H' => ∃ F3 F4, (theRep T).Lad H' p wd l (lessL (ms.take i) xs) F3 ∧ (theRep T).Lad H' y wd l (ms.take i) F4 ∧ Frame F F3 H H' ∧ (∀ b o, ¬ F b → H b = some o → ¬ F4 b) ∧ (∀ b, F3 b → ¬ F4 b) ∧ H' mv = some (.lst (ms.map V.int)) ∧ ¬ F3 mv ∧ ¬ F4 mv ∧ ∃ y4, σ = [nR p, nI n, nR mv, nR y, y4])
      ⟨F, F2, by rw [show ms.take 0 = [] from rfl, less_nil]; exact (theRep T).same hL u2, hM, Frame.refl F u2, fun b o _ e f => (by rw [out0 b f] at e; cases e), ap, hm, mF, mF2, none, rfl⟩ (fun i σ H' _ hh => ?_) ?_ ?_⟩
    · obtain ⟨F3, F4, _, _, _, _, _, hc, _⟩ := hh
      exact SqL.of hc
    · rintro i x σ H' hi ⟨F3, F4, l3, l4, fr, nf, a34, hc, m3, m4, y4, rfl⟩
      obtain ⟨il, rfl, mx⟩ := int_at hi
      have nx := less_next (xs := xs) il
      have rt := rise_take okm.rise il
      have b0 := okm.lo _ mx
      have b1 := okm.hi _ mx
      have nin : ms.getD i 0 ∈ lessL (ms.take i) xs := List.mem_filter.mpr ⟨mr _ mx, by
        rw [Bool.not_eq_true', decide_eq_false_iff_not]
        exact nodup_at (rise_nodup okm.rise) il⟩
      have nin2 := nodup_at (rise_nodup okm.rise) il
      have k3 : (lessL (ms.take i) xs).length ≤ 150 := Nat.le_trans (List.length_filter_le _ _) hlen
      have k4 : (ms.take i).length ≤ 150 := Nat.le_trans (List.length_take_le' _ _) km
      obtain ⟨d3, r3, hp3, _, _, _, _⟩ := l3.has
      dsimp only [gName]
      refine ⟨_, rfl, p, d3, _, rfl, hp3, rfl, _, rfl, p, wd, l, _, F3, _, _, rfl, view_out l3, k3, fun z => absurd z (by omega), fun _ _ z => absurd nin z, fun _ H5 G5 F5 r5 us5 v5 s5 _ _ _ => ?_⟩
      have fr5 := frame_view v5 s5
      have l5 := v5.lad
      rw [nx] at l5
      have l4' := fr5.lad l4 a34
      obtain ⟨d4, r4, hp4, _, _, _, _⟩ := l4'.1.has
      have hc5 := fr5 mv _ m3 hc
      refine ⟨_, rfl, y, d4, _, rfl, hp4, rfl, _, rfl, y, wd, l, _, F4, _, _, rfl, view_out l4'.1, k4, fun z => absurd z (by omega), fun z => absurd z nin2, fun _ _ _ H6 G6 F6 r6 us6 v6 s6 _ _ _ => ?_⟩
      have fr6 := frame_view v6 s6
      have l6 := v6.lad
      rw [rt] at l6
      have l5' := fr6.lad l5 fun b a c => l4'.2 b c a
      have hc6 := fr6 mv _ m4 hc5.1
      refine ⟨F5, F6, l5'.1, l6, fun b o nb e => ?_, fun b o nb e => ?_, fun b a c => l5'.2 b c a, hc6.1, hc5.2, hc6.2, _, rfl⟩
      · have z := (fr.trans fr5) b o nb e
        exact ⟨(fr6 b o (nf b o nb e) z.1).1, z.2⟩
      · have z := (fr.trans fr5) b o nb e
        exact (fr6 b o (nf b o nb e) z.1).2
    rintro σ H3 ⟨F3, F4, l3, l4, fr, nf, a34, hc, m3, m4, y4, rfl⟩
    rw [List.length_map, List.take_length] at l3 l4
    rw [lc] at l3
    exact ⟨_, rfl, good n0 n1 H3 F3 y F4 l3 l4 fr nf a34⟩
theorem ok_poured (T : Txt K mg) : FnOk P w K mg base (L2.CX P w) 8 T.f_poured T.fd_poured ["ladder", "other"] (sp_poured T (theRep T)) := by
  have G_ladder_row : FnOk P w K mg base CX0 1 T.f_ladder_row T.fd_ladder_row ["self"] (sp_ladder_row T (theRep T)) := ok_ladder_row T
  have G_ladder_has : FnOk P w K mg base (L2.CX P w) 2 T.f_ladder_has T.fd_ladder_has ["self", "number"] (sp_ladder_has T (theRep T)) := ok_ladder_has T
  have G_ladder_put : FnOk P w K mg base (L2.CX P w) 5 T.f_ladder_put T.fd_ladder_put ["self", "number"] (sp_ladder_put T (theRep T)) := ok_ladder_put T
  refine T.F_poured.okX sc_poured (fun vs H Q E h => ?_) (fun cdv A outer s H vs Q E hr h => ?_)
  · obtain ⟨p, q, wd, w2, h, h2, xs, ys, F, F2, rfl, _⟩ := h
    rfl
  · obtain ⟨p, q, wd, w2, h, h2, xs, ys, F, F2, rfl, hL, hM, hlen, other, dup, apart, good⟩ := h
    refine ⟨_, (pss_cons (ps_if (PW.pt (pw_or (pt_cmpR op_ne (pe_fld (pv 0) rfl) (pe_fld (pv 1) rfl) (nomark _)) (pw_or1 (pt_cmpR op_ne (pe_fld (pv 0) rfl) (pe_fld (pv 1) rfl) (nomark _))))) (pss_one (ps_raise rfl (takes_of rfl rfl rfl rfl) (pmk_own PySem.F.excBase_ValueError T.xp_OtherSize T.x_OtherSize T.kp_OtherSize (raises_own T.bp_OtherSize T.tp_OtherSize) (by rfl)))) pss_nil)
      (pss_cons (ps_set (i := 2) sc_poured.nd rfl (.inl rfl) (pe_meth0 (pv 1) T.cl_Ladder T.m_ladder_row G_ladder_row (hr.mono (by decide)) T.bd_ladder_row .nil pass0))
      (pss_cons (ps_for (passes_of rfl) rfl (pi_list (pv 2)) (pg_name (i := 3) sc_poured.nd rfl (.inl rfl)) (pss_one (ps_if (pt_val (pe_meth (pv 0) T.cl_Ladder T.m_ladder_has G_ladder_has (hr.mono (by decide)) T.bd_ladder_has .nil (passes_call (takes_of rfl rfl rfl rfl) (fun _ _ _ _ h => h)) (pa_cons (pv 3) pa_nil))) (pss_one (ps_raise rfl (takes_of rfl rfl rfl rfl) (pmk_own PySem.F.excBase_ValueError T.xp_Present T.x_Present T.kp_Present (raises_own T.bp_Present T.tp_Present) (by rfl)))) pss_nil)))
      (pss_one (ps_for (passes_of rfl) rfl (pi_list (pv 2)) (pg_name (i := 3) sc_poured.nd rfl (.inl rfl)) (pss_one (ps_expr (pe_meth (pv 0) T.cl_Ladder T.m_ladder_put G_ladder_put (hr.mono (by decide)) T.bd_ladder_put .nil (passes_call (takes_of rfl rfl rfl rfl) (fun _ _ _ _ h => h)) (pa_cons (pv 3) pa_nil))))))))), ?_⟩
    obtain ⟨dx, r, hp, hr', f1, f2, f3⟩ := hL.has
    obtain ⟨dy, t, hq, ht', g1, g2, g3⟩ := hM.has
    have ok := hL.ok
    have ok2 := hM.ok
    refine ⟨_, rfl, p, _, dx, _, _, rfl, hp, T.cl_Ladder, T.n_Ladder_width, rfl, _, rfl, q, _, dy, _, _, rfl, hq, T.cl_Ladder, T.n_Ladder_width, rfl, rfl, _, rfl, ?_⟩
    by_cases cw : wd = w2
    · subst cw
      refine iteNS rfl ?_
      refine ⟨_, rfl, p, _, dx, _, _, rfl, hp, T.cl_Ladder, T.n_Ladder_high, rfl, _, rfl, q, _, dy, _, _, rfl, hq, T.cl_Ladder, T.n_Ladder_high, rfl, rfl, _, rfl, ?_⟩
      by_cases ch : h = h2
      · subst ch
        refine iteNS rfl ?_
        refine ⟨_, rfl, q, dy, _, rfl, hq, rfl, q, wd, h, ys, F2, rfl, hM, by omega, fun H1 nb s1 n1 hn => ?_⟩
        dsimp only [gName]
        have hL1 := (theRep T).same hL s1
        refine ⟨_, rfl, nb, rfl, ⟨_, SqL.of hn⟩, for_list (K := K) (a := nb) (xs := ys.map V.int) (fun i σ H' => Same H1 H' ∧ (∀ j, j < i → j < ys.length → ys.getD j 0 ∉ xs) ∧ ∃ y3, σ = [nR p, nR q, nR nb, y3]) ⟨Same.refl _, (fun j hj => absurd hj (Nat.not_lt_zero j)), none, rfl⟩ (fun i σ H' _ hh => SqL.of (hh.1 _ _ hn)) ?_ ?_⟩
        · rintro i x σ H' hi ⟨sH, no, y3, rfl⟩
          obtain ⟨il, rfl, mx⟩ := int_at hi
          dsimp only [gName]
          have hpH := sH _ _ (s1 _ _ hp)
          refine ⟨_, rfl, p, dx, _, rfl, hpH, rfl, _, rfl, p, wd, h, xs, F, _, rfl, (theRep T).same hL1 sH, by omega, fun z => absurd z (by have := ok2.lo _ mx; have := ok2.hi _ mx; omega), fun a b H2 s2 => ⟨_, rfl, ite2 (fun c => ?_) (fun c => ?_)⟩⟩
          · exact dup rfl rfl ⟨_, mx, of_decide_eq_true c⟩ H2 (s1.trans (sH.trans s2))
          · refine ⟨sH.trans s2, fun j hj jl => ?_, _, rfl⟩
            by_cases e : j = i
            · subst e
              exact fun z => c (decide_eq_true z)
            · exact no j (by omega) jl
        rintro σ H2 ⟨s2, no, y3, rfl⟩
        rw [List.length_map] at no
        have dis : ∀ y ∈ ys, y ∉ xs := fun y hy => by
          obtain ⟨j, hj, rfl⟩ := List.mem_iff_getElem.mp hy
          have z := no j hj hj
          rw [getD_eq hj] at z
          exact z
        have nod := rise_nodup ok2.rise
        have hn2 := s2 _ _ hn
        have nbF : ¬ F nb := fun f => by
          obtain ⟨o, e⟩ := (theRep T).there hL nb f
          rw [n1] at e
          cases e
        refine ⟨_, rfl, nb, rfl, ⟨_, SqL.of hn2⟩, for_list (K := K) (a := nb) (xs := ys.map V.int) (fun i σ H' => ∃ F', (theRep T).Lad H' p wd h (pourL (ys.take i) xs) F' ∧ Frame F F' H2 H' ∧ ∃ y3, σ = [nR p, nR q, nR nb, y3]) ⟨F, (theRep T).same hL1 s2, Frame.refl F (Same.refl _), y3, rfl⟩ (fun i σ H' _ hh => ?_) ?_ ?_⟩
        · obtain ⟨F', _, fr, _⟩ := hh
          exact SqL.of (fr nb _ nbF hn2).1
        · rintro i x σ H' hi ⟨F', hl, fr, y4, rfl⟩
          obtain ⟨il, rfl, mx⟩ := int_at hi
          dsimp only [gName]
          obtain ⟨dz, rz, hpz, _, _, _, _⟩ := hl.has
          have lt := List.length_take_le i ys
          have dt : ∀ y ∈ ys.take i, y ∉ xs := fun y hy => dis y (List.mem_of_mem_take hy)
          have pl := pourL_len (nod.sublist (List.take_sublist i ys)) dt
          have ny : ys.getD i 0 ∉ pourL (ys.take i) xs := fun z => by
            rcases mem_pourL.mp z with m | m
            · exact nodup_at nod il m
            · exact dis _ mx m
          refine ⟨_, rfl, p, dz, _, rfl, hpz, rfl, _, rfl, p, wd, h, _, F', _, _, rfl, view_out hl, by omega, fun z => absurd z (by have := ok2.lo _ mx; have := ok2.hi _ mx; omega), fun z => absurd z ny, fun a b _ H3 G3 F3 r3 us v3 s3 _ _ _ => ?_⟩
          rw [← pourL_next il] at v3
          exact ⟨F3, v3.lad, fr.trans (frame_view v3 s3), _, rfl⟩
        rintro σ H3 ⟨F', hl, fr, y4, rfl⟩
        rw [List.length_map, List.take_length] at hl
        exact good rfl rfl dis H3 F' hl ((Frame.refl F (s1.trans s2)).trans fr)
      · refine iteNT (fun z => ch (by have := V.int.inj z; omega)) (other (.inr ch) H (Evl.Ex.refl _))
    · exact iteNT (fun z => cw (V.int.inj z)) (iteT (other (.inl cw) H (Evl.Ex.refl _)))
theorem theProg (T : Txt K mg) : Prog P w K mg base T (theRep T) := { init := (ok_ladder_init T).mono (by decide), put := (ok_ladder_put T).mono (by decide), take := (ok_ladder_take T).mono (by decide), row := (ok_ladder_row T).mono (by decide), has := (ok_ladder_has T).mono (by decide), level := (ok_ladder_level T).mono (by decide), ahead := (ok_ladder_ahead T).mono (by decide), trail := (ok_ladder_trail T).mono (by decide), below := (ok_ladder_below T).mono (by decide), above := (ok_ladder_above T).mono (by decide), place := (ok_ladder_place T).mono (by decide), at_ := (ok_ladder_at T).mono (by decide), way := (ok_ladder_way T).mono (by decide), stretch := (ok_ladder_stretch T).mono (by decide), counted := (ok_ladder_counted T).mono (by decide), cut_ := (ok_cut T).mono (by decide), poured := (ok_poured T).mono (by decide), bagOf := fun l => LadP.bag l }
end
theorem all_mk {l : PySem.W.OpenLaw} {w : World} {K : PySem.W.Frag} {h : Heap} {mg : Str → Option Value} {fa : Addr} {f_power f_block f_thinned f_tall f_ladder_init f_ladder_put f_ladder_take f_ladder_has f_ladder_row f_ladder_level f_ladder_ahead f_ladder_trail f_ladder_below f_ladder_above f_ladder_place f_ladder_at f_ladder_way f_ladder_stretch f_ladder_counted f_ladder_check_number f_ladder_check_end f_ladder_check_level f_ladder_check_place f_ladder_spot f_ladder_at_or_none f_ladder_before f_ladder_begin f_ladder_reach f_ladder_heirs f_ladder_walk f_cut f_poured f_l_cell_at f_l_number f_l_deed f_l_told f_l_made f_l_refused f_l_refused_by_any f_l_half f_l_goes_on f_l_ends f_l_again f_l_woven f_l_is_there f_l_by_turns f_l_mated f_l_cut f_law c_Ladder c_LadderError c_BadSize c_OutOfRange c_Present c_Missing c_NoLevel c_NoPlace c_OtherSize : Addr} (X : K.In h) (G : h.Ns mainGlobals mg) (hfa : mg "law" = some (.ref fa))
    {od_power an_power od_block an_block od_thinned an_thinned od_tall an_tall od_ladder_init an_ladder_init od_ladder_put an_ladder_put od_ladder_take an_ladder_take od_ladder_has an_ladder_has od_ladder_row an_ladder_row od_ladder_level an_ladder_level od_ladder_ahead an_ladder_ahead od_ladder_trail an_ladder_trail od_ladder_below an_ladder_below od_ladder_above an_ladder_above od_ladder_place an_ladder_place od_ladder_at an_ladder_at od_ladder_way an_ladder_way od_ladder_stretch an_ladder_stretch od_ladder_counted an_ladder_counted od_ladder_check_number an_ladder_check_number od_ladder_check_end an_ladder_check_end od_ladder_check_level an_ladder_check_level od_ladder_check_place an_ladder_check_place od_ladder_spot an_ladder_spot od_ladder_at_or_none an_ladder_at_or_none od_ladder_before an_ladder_before od_ladder_begin an_ladder_begin od_ladder_reach an_ladder_reach od_ladder_heirs an_ladder_heirs od_ladder_walk an_ladder_walk od_cut an_cut od_poured an_poured od_l_cell_at an_l_cell_at od_l_number an_l_number od_l_deed an_l_deed od_l_told an_l_told od_l_made an_l_made od_l_refused an_l_refused od_l_refused_by_any an_l_refused_by_any od_l_half an_l_half od_l_goes_on an_l_goes_on od_l_ends an_l_ends od_l_again an_l_again od_l_woven an_l_woven od_l_is_there an_l_is_there od_l_by_turns an_l_by_turns od_l_mated an_l_mated od_l_cut an_l_cut od_law an_law : Option Addr} {sl_power sl_block sl_thinned sl_tall sl_ladder_init sl_ladder_put sl_ladder_take sl_ladder_has sl_ladder_row sl_ladder_level sl_ladder_ahead sl_ladder_trail sl_ladder_below sl_ladder_above sl_ladder_place sl_ladder_at sl_ladder_way sl_ladder_stretch sl_ladder_counted sl_ladder_check_number sl_ladder_check_end sl_ladder_check_level sl_ladder_check_place sl_ladder_spot sl_ladder_at_or_none sl_ladder_before sl_ladder_begin sl_ladder_reach sl_ladder_heirs sl_ladder_walk sl_cut sl_poured sl_l_cell_at sl_l_number sl_l_deed sl_l_told sl_l_made sl_l_refused sl_l_refused_by_any sl_l_half sl_l_goes_on sl_l_ends sl_l_again sl_l_woven sl_l_is_there sl_l_by_turns sl_l_mated sl_l_cut sl_law : Array (Option Value)} {oc_power kV_power dc_power pm_power cd_power ct_power oc_block kV_block dc_block pm_block cd_block ct_block oc_thinned kV_thinned dc_thinned pm_thinned cd_thinned ct_thinned oc_tall kV_tall dc_tall pm_tall cd_tall ct_tall oc_ladder_init kV_ladder_init dc_ladder_init pm_ladder_init cd_ladder_init ct_ladder_init oc_ladder_put kV_ladder_put dc_ladder_put pm_ladder_put cd_ladder_put ct_ladder_put oc_ladder_take kV_ladder_take dc_ladder_take pm_ladder_take cd_ladder_take ct_ladder_take oc_ladder_has kV_ladder_has dc_ladder_has pm_ladder_has cd_ladder_has ct_ladder_has oc_ladder_row kV_ladder_row dc_ladder_row pm_ladder_row cd_ladder_row ct_ladder_row oc_ladder_level kV_ladder_level dc_ladder_level pm_ladder_level cd_ladder_level ct_ladder_level oc_ladder_ahead kV_ladder_ahead dc_ladder_ahead pm_ladder_ahead cd_ladder_ahead ct_ladder_ahead oc_ladder_trail kV_ladder_trail dc_ladder_trail pm_ladder_trail cd_ladder_trail ct_ladder_trail oc_ladder_below kV_ladder_below dc_ladder_below pm_ladder_below cd_ladder_below ct_ladder_below oc_ladder_above kV_ladder_above dc_ladder_above pm_ladder_above cd_ladder_above ct_ladder_above oc_ladder_place kV_ladder_place dc_ladder_place pm_ladder_place cd_ladder_place ct_ladder_place oc_ladder_at kV_ladder_at dc_ladder_at pm_ladder_at cd_ladder_at ct_ladder_at oc_ladder_way kV_ladder_way dc_ladder_way pm_ladder_way cd_ladder_way ct_ladder_way oc_ladder_stretch kV_ladder_stretch dc_ladder_stretch pm_ladder_stretch cd_ladder_stretch ct_ladder_stretch oc_ladder_counted kV_ladder_counted dc_ladder_counted pm_ladder_counted cd_ladder_counted ct_ladder_counted oc_ladder_check_number kV_ladder_check_number dc_ladder_check_number pm_ladder_check_number cd_ladder_check_number ct_ladder_check_number oc_ladder_check_end kV_ladder_check_end dc_ladder_check_end pm_ladder_check_end cd_ladder_check_end ct_ladder_check_end oc_ladder_check_level kV_ladder_check_level dc_ladder_check_level pm_ladder_check_level cd_ladder_check_level ct_ladder_check_level oc_ladder_check_place kV_ladder_check_place dc_ladder_check_place pm_ladder_check_place cd_ladder_check_place ct_ladder_check_place oc_ladder_spot kV_ladder_spot dc_ladder_spot pm_ladder_spot cd_ladder_spot ct_ladder_spot oc_ladder_at_or_none kV_ladder_at_or_none dc_ladder_at_or_none pm_ladder_at_or_none cd_ladder_at_or_none ct_ladder_at_or_none oc_ladder_before kV_ladder_before dc_ladder_before pm_ladder_before cd_ladder_before ct_ladder_before oc_ladder_begin kV_ladder_begin dc_ladder_begin pm_ladder_begin cd_ladder_begin ct_ladder_begin oc_ladder_reach kV_ladder_reach dc_ladder_reach pm_ladder_reach cd_ladder_reach ct_ladder_reach oc_ladder_heirs kV_ladder_heirs dc_ladder_heirs pm_ladder_heirs cd_ladder_heirs ct_ladder_heirs oc_ladder_walk kV_ladder_walk dc_ladder_walk pm_ladder_walk cd_ladder_walk ct_ladder_walk oc_cut kV_cut dc_cut pm_cut cd_cut ct_cut oc_poured kV_poured dc_poured pm_poured cd_poured ct_poured oc_l_cell_at kV_l_cell_at dc_l_cell_at pm_l_cell_at cd_l_cell_at ct_l_cell_at oc_l_number kV_l_number dc_l_number pm_l_number cd_l_number ct_l_number oc_l_deed kV_l_deed dc_l_deed pm_l_deed cd_l_deed ct_l_deed oc_l_told kV_l_told dc_l_told pm_l_told cd_l_told ct_l_told oc_l_made kV_l_made dc_l_made pm_l_made cd_l_made ct_l_made oc_l_refused kV_l_refused dc_l_refused pm_l_refused cd_l_refused ct_l_refused oc_l_refused_by_any kV_l_refused_by_any dc_l_refused_by_any pm_l_refused_by_any cd_l_refused_by_any ct_l_refused_by_any oc_l_half kV_l_half dc_l_half pm_l_half cd_l_half ct_l_half oc_l_goes_on kV_l_goes_on dc_l_goes_on pm_l_goes_on cd_l_goes_on ct_l_goes_on oc_l_ends kV_l_ends dc_l_ends pm_l_ends cd_l_ends ct_l_ends oc_l_again kV_l_again dc_l_again pm_l_again cd_l_again ct_l_again oc_l_woven kV_l_woven dc_l_woven pm_l_woven cd_l_woven ct_l_woven oc_l_is_there kV_l_is_there dc_l_is_there pm_l_is_there cd_l_is_there ct_l_is_there oc_l_by_turns kV_l_by_turns dc_l_by_turns pm_l_by_turns cd_l_by_turns ct_l_by_turns oc_l_mated kV_l_mated dc_l_mated pm_l_mated cd_l_mated ct_l_mated oc_l_cut kV_l_cut dc_l_cut pm_l_cut cd_l_cut ct_l_cut oc_law kV_law dc_law pm_law cd_law ct_law : Value}
    (aC_Ladder : PySem.W.nsIn K mainGlobals "Ladder" = some (some (.ref c_Ladder)))
    (aC_LadderError : PySem.W.nsIn K mainGlobals "LadderError" = some (some (.ref c_LadderError)))
    (aC_BadSize : PySem.W.nsIn K mainGlobals "BadSize" = some (some (.ref c_BadSize)))
    (aC_OutOfRange : PySem.W.nsIn K mainGlobals "OutOfRange" = some (some (.ref c_OutOfRange)))
    (aC_Present : PySem.W.nsIn K mainGlobals "Present" = some (some (.ref c_Present)))
    (aC_Missing : PySem.W.nsIn K mainGlobals "Missing" = some (some (.ref c_Missing)))
    (aC_NoLevel : PySem.W.nsIn K mainGlobals "NoLevel" = some (some (.ref c_NoLevel)))
    (aC_NoPlace : PySem.W.nsIn K mainGlobals "NoPlace" = some (some (.ref c_NoPlace)))
    (aC_OtherSize : PySem.W.nsIn K mainGlobals "OtherSize" = some (some (.ref c_OtherSize)))
    (a_power : PySem.W.nsIn K mainGlobals "power" = some (some (.ref f_power)))
    (l_power : K.lookup f_power = some ⟨oc_power, od_power, .func (PySem.W.fnOf "power" "power" (defArgs s_power) (defBody s_power) (defScope s_power) .none kV_power dc_power pm_power an_power cd_power ct_power), sl_power⟩)
    (c_power : PySem.W.codeIn K cd_power "power" = true)
    (k_power : PySem.W.keepIn K (.ref f_power) = true)
    (a_block : PySem.W.nsIn K mainGlobals "block" = some (some (.ref f_block)))
    (l_block : K.lookup f_block = some ⟨oc_block, od_block, .func (PySem.W.fnOf "block" "block" (defArgs s_block) (defBody s_block) (defScope s_block) .none kV_block dc_block pm_block an_block cd_block ct_block), sl_block⟩)
    (c_block : PySem.W.codeIn K cd_block "block" = true)
    (k_block : PySem.W.keepIn K (.ref f_block) = true)
    (a_thinned : PySem.W.nsIn K mainGlobals "thinned" = some (some (.ref f_thinned)))
    (l_thinned : K.lookup f_thinned = some ⟨oc_thinned, od_thinned, .func (PySem.W.fnOf "thinned" "thinned" (defArgs s_thinned) (defBody s_thinned) (defScope s_thinned) .none kV_thinned dc_thinned pm_thinned an_thinned cd_thinned ct_thinned), sl_thinned⟩)
    (c_thinned : PySem.W.codeIn K cd_thinned "thinned" = true)
    (k_thinned : PySem.W.keepIn K (.ref f_thinned) = true)
    (a_tall : PySem.W.nsIn K mainGlobals "tall" = some (some (.ref f_tall)))
    (l_tall : K.lookup f_tall = some ⟨oc_tall, od_tall, .func (PySem.W.fnOf "tall" "tall" (defArgs s_tall) (defBody s_tall) (defScope s_tall) .none kV_tall dc_tall pm_tall an_tall cd_tall ct_tall), sl_tall⟩)
    (c_tall : PySem.W.codeIn K cd_tall "tall" = true)
    (k_tall : PySem.W.keepIn K (.ref f_tall) = true)
    (a_ladder_init : PySem.W.findIn K (.ref c_Ladder) "__init__" = some (some (.ref f_ladder_init)))
    (l_ladder_init : K.lookup f_ladder_init = some ⟨oc_ladder_init, od_ladder_init, .func (PySem.W.fnOf "__init__" "Ladder.__init__" (defArgs s_ladder_init) (defBody s_ladder_init) (defScope s_ladder_init) .none kV_ladder_init dc_ladder_init pm_ladder_init an_ladder_init cd_ladder_init ct_ladder_init), sl_ladder_init⟩)
    (c_ladder_init : PySem.W.codeIn K cd_ladder_init "Ladder.__init__" = true)
    (k_ladder_init : PySem.W.keepIn K (.ref f_ladder_init) = true)
    (a_ladder_put : PySem.W.findIn K (.ref c_Ladder) "put" = some (some (.ref f_ladder_put)))
    (l_ladder_put : K.lookup f_ladder_put = some ⟨oc_ladder_put, od_ladder_put, .func (PySem.W.fnOf "put" "Ladder.put" (defArgs s_ladder_put) (defBody s_ladder_put) (defScope s_ladder_put) .none kV_ladder_put dc_ladder_put pm_ladder_put an_ladder_put cd_ladder_put ct_ladder_put), sl_ladder_put⟩)
    (c_ladder_put : PySem.W.codeIn K cd_ladder_put "Ladder.put" = true)
    (k_ladder_put : PySem.W.keepIn K (.ref f_ladder_put) = true)
    (a_ladder_take : PySem.W.findIn K (.ref c_Ladder) "take" = some (some (.ref f_ladder_take)))
    (l_ladder_take : K.lookup f_ladder_take = some ⟨oc_ladder_take, od_ladder_take, .func (PySem.W.fnOf "take" "Ladder.take" (defArgs s_ladder_take) (defBody s_ladder_take) (defScope s_ladder_take) .none kV_ladder_take dc_ladder_take pm_ladder_take an_ladder_take cd_ladder_take ct_ladder_take), sl_ladder_take⟩)
    (c_ladder_take : PySem.W.codeIn K cd_ladder_take "Ladder.take" = true)
    (k_ladder_take : PySem.W.keepIn K (.ref f_ladder_take) = true)
    (a_ladder_has : PySem.W.findIn K (.ref c_Ladder) "has" = some (some (.ref f_ladder_has)))
    (l_ladder_has : K.lookup f_ladder_has = some ⟨oc_ladder_has, od_ladder_has, .func (PySem.W.fnOf "has" "Ladder.has" (defArgs s_ladder_has) (defBody s_ladder_has) (defScope s_ladder_has) .none kV_ladder_has dc_ladder_has pm_ladder_has an_ladder_has cd_ladder_has ct_ladder_has), sl_ladder_has⟩)
    (c_ladder_has : PySem.W.codeIn K cd_ladder_has "Ladder.has" = true)
    (k_ladder_has : PySem.W.keepIn K (.ref f_ladder_has) = true)
    (a_ladder_row : PySem.W.findIn K (.ref c_Ladder) "row" = some (some (.ref f_ladder_row)))
    (l_ladder_row : K.lookup f_ladder_row = some ⟨oc_ladder_row, od_ladder_row, .func (PySem.W.fnOf "row" "Ladder.row" (defArgs s_ladder_row) (defBody s_ladder_row) (defScope s_ladder_row) .none kV_ladder_row dc_ladder_row pm_ladder_row an_ladder_row cd_ladder_row ct_ladder_row), sl_ladder_row⟩)
    (c_ladder_row : PySem.W.codeIn K cd_ladder_row "Ladder.row" = true)
    (k_ladder_row : PySem.W.keepIn K (.ref f_ladder_row) = true)
    (a_ladder_level : PySem.W.findIn K (.ref c_Ladder) "level" = some (some (.ref f_ladder_level)))
    (l_ladder_level : K.lookup f_ladder_level = some ⟨oc_ladder_level, od_ladder_level, .func (PySem.W.fnOf "level" "Ladder.level" (defArgs s_ladder_level) (defBody s_ladder_level) (defScope s_ladder_level) .none kV_ladder_level dc_ladder_level pm_ladder_level an_ladder_level cd_ladder_level ct_ladder_level), sl_ladder_level⟩)
    (c_ladder_level : PySem.W.codeIn K cd_ladder_level "Ladder.level" = true)
    (k_ladder_level : PySem.W.keepIn K (.ref f_ladder_level) = true)
    (a_ladder_ahead : PySem.W.findIn K (.ref c_Ladder) "ahead" = some (some (.ref f_ladder_ahead)))
    (l_ladder_ahead : K.lookup f_ladder_ahead = some ⟨oc_ladder_ahead, od_ladder_ahead, .func (PySem.W.fnOf "ahead" "Ladder.ahead" (defArgs s_ladder_ahead) (defBody s_ladder_ahead) (defScope s_ladder_ahead) .none kV_ladder_ahead dc_ladder_ahead pm_ladder_ahead an_ladder_ahead cd_ladder_ahead ct_ladder_ahead), sl_ladder_ahead⟩)
    (c_ladder_ahead : PySem.W.codeIn K cd_ladder_ahead "Ladder.ahead" = true)
    (k_ladder_ahead : PySem.W.keepIn K (.ref f_ladder_ahead) = true)
    (a_ladder_trail : PySem.W.findIn K (.ref c_Ladder) "trail" = some (some (.ref f_ladder_trail)))
    (l_ladder_trail : K.lookup f_ladder_trail = some ⟨oc_ladder_trail, od_ladder_trail, .func (PySem.W.fnOf "trail" "Ladder.trail" (defArgs s_ladder_trail) (defBody s_ladder_trail) (defScope s_ladder_trail) .none kV_ladder_trail dc_ladder_trail pm_ladder_trail an_ladder_trail cd_ladder_trail ct_ladder_trail), sl_ladder_trail⟩)
    (c_ladder_trail : PySem.W.codeIn K cd_ladder_trail "Ladder.trail" = true)
    (k_ladder_trail : PySem.W.keepIn K (.ref f_ladder_trail) = true)
    (a_ladder_below : PySem.W.findIn K (.ref c_Ladder) "below" = some (some (.ref f_ladder_below)))
    (l_ladder_below : K.lookup f_ladder_below = some ⟨oc_ladder_below, od_ladder_below, .func (PySem.W.fnOf "below" "Ladder.below" (defArgs s_ladder_below) (defBody s_ladder_below) (defScope s_ladder_below) .none kV_ladder_below dc_ladder_below pm_ladder_below an_ladder_below cd_ladder_below ct_ladder_below), sl_ladder_below⟩)
    (c_ladder_below : PySem.W.codeIn K cd_ladder_below "Ladder.below" = true)
    (k_ladder_below : PySem.W.keepIn K (.ref f_ladder_below) = true)
    (a_ladder_above : PySem.W.findIn K (.ref c_Ladder) "above" = some (some (.ref f_ladder_above)))
    (l_ladder_above : K.lookup f_ladder_above = some ⟨oc_ladder_above, od_ladder_above, .func (PySem.W.fnOf "above" "Ladder.above" (defArgs s_ladder_above) (defBody s_ladder_above) (defScope s_ladder_above) .none kV_ladder_above dc_ladder_above pm_ladder_above an_ladder_above cd_ladder_above ct_ladder_above), sl_ladder_above⟩)
    (c_ladder_above : PySem.W.codeIn K cd_ladder_above "Ladder.above" = true)
    (k_ladder_above : PySem.W.keepIn K (.ref f_ladder_above) = true)
    (a_ladder_place : PySem.W.findIn K (.ref c_Ladder) "place" = some (some (.ref f_ladder_place)))
    (l_ladder_place : K.lookup f_ladder_place = some ⟨oc_ladder_place, od_ladder_place, .func (PySem.W.fnOf "place" "Ladder.place" (defArgs s_ladder_place) (defBody s_ladder_place) (defScope s_ladder_place) .none kV_ladder_place dc_ladder_place pm_ladder_place an_ladder_place cd_ladder_place ct_ladder_place), sl_ladder_place⟩)
    (c_ladder_place : PySem.W.codeIn K cd_ladder_place "Ladder.place" = true)
    (k_ladder_place : PySem.W.keepIn K (.ref f_ladder_place) = true)
    (a_ladder_at : PySem.W.findIn K (.ref c_Ladder) "at" = some (some (.ref f_ladder_at)))
    (l_ladder_at : K.lookup f_ladder_at = some ⟨oc_ladder_at, od_ladder_at, .func (PySem.W.fnOf "at" "Ladder.at" (defArgs s_ladder_at) (defBody s_ladder_at) (defScope s_ladder_at) .none kV_ladder_at dc_ladder_at pm_ladder_at an_ladder_at cd_ladder_at ct_ladder_at), sl_ladder_at⟩)
    (c_ladder_at : PySem.W.codeIn K cd_ladder_at "Ladder.at" = true)
    (k_ladder_at : PySem.W.keepIn K (.ref f_ladder_at) = true)
    (a_ladder_way : PySem.W.findIn K (.ref c_Ladder) "way" = some (some (.ref f_ladder_way)))
    (l_ladder_way : K.lookup f_ladder_way = some ⟨oc_ladder_way, od_ladder_way, .func (PySem.W.fnOf "way" "Ladder.way" (defArgs s_ladder_way) (defBody s_ladder_way) (defScope s_ladder_way) .none kV_ladder_way dc_ladder_way pm_ladder_way an_ladder_way cd_ladder_way ct_ladder_way), sl_ladder_way⟩)
    (c_ladder_way : PySem.W.codeIn K cd_ladder_way "Ladder.way" = true)
    (k_ladder_way : PySem.W.keepIn K (.ref f_ladder_way) = true)
    (a_ladder_stretch : PySem.W.findIn K (.ref c_Ladder) "stretch" = some (some (.ref f_ladder_stretch)))
    (l_ladder_stretch : K.lookup f_ladder_stretch = some ⟨oc_ladder_stretch, od_ladder_stretch, .func (PySem.W.fnOf "stretch" "Ladder.stretch" (defArgs s_ladder_stretch) (defBody s_ladder_stretch) (defScope s_ladder_stretch) .none kV_ladder_stretch dc_ladder_stretch pm_ladder_stretch an_ladder_stretch cd_ladder_stretch ct_ladder_stretch), sl_ladder_stretch⟩)
    (c_ladder_stretch : PySem.W.codeIn K cd_ladder_stretch "Ladder.stretch" = true)
    (k_ladder_stretch : PySem.W.keepIn K (.ref f_ladder_stretch) = true)
    (a_ladder_counted : PySem.W.findIn K (.ref c_Ladder) "counted" = some (some (.ref f_ladder_counted)))
    (l_ladder_counted : K.lookup f_ladder_counted = some ⟨oc_ladder_counted, od_ladder_counted, .func (PySem.W.fnOf "counted" "Ladder.counted" (defArgs s_ladder_counted) (defBody s_ladder_counted) (defScope s_ladder_counted) .none kV_ladder_counted dc_ladder_counted pm_ladder_counted an_ladder_counted cd_ladder_counted ct_ladder_counted), sl_ladder_counted⟩)
    (c_ladder_counted : PySem.W.codeIn K cd_ladder_counted "Ladder.counted" = true)
    (k_ladder_counted : PySem.W.keepIn K (.ref f_ladder_counted) = true)
    (a_ladder_check_number : PySem.W.findIn K (.ref c_Ladder) "_check_number" = some (some (.ref f_ladder_check_number)))
    (l_ladder_check_number : K.lookup f_ladder_check_number = some ⟨oc_ladder_check_number, od_ladder_check_number, .func (PySem.W.fnOf "_check_number" "Ladder._check_number" (defArgs s_ladder_check_number) (defBody s_ladder_check_number) (defScope s_ladder_check_number) .none kV_ladder_check_number dc_ladder_check_number pm_ladder_check_number an_ladder_check_number cd_ladder_check_number ct_ladder_check_number), sl_ladder_check_number⟩)
    (c_ladder_check_number : PySem.W.codeIn K cd_ladder_check_number "Ladder._check_number" = true)
    (k_ladder_check_number : PySem.W.keepIn K (.ref f_ladder_check_number) = true)
    (a_ladder_check_end : PySem.W.findIn K (.ref c_Ladder) "_check_end" = some (some (.ref f_ladder_check_end)))
    (l_ladder_check_end : K.lookup f_ladder_check_end = some ⟨oc_ladder_check_end, od_ladder_check_end, .func (PySem.W.fnOf "_check_end" "Ladder._check_end" (defArgs s_ladder_check_end) (defBody s_ladder_check_end) (defScope s_ladder_check_end) .none kV_ladder_check_end dc_ladder_check_end pm_ladder_check_end an_ladder_check_end cd_ladder_check_end ct_ladder_check_end), sl_ladder_check_end⟩)
    (c_ladder_check_end : PySem.W.codeIn K cd_ladder_check_end "Ladder._check_end" = true)
    (k_ladder_check_end : PySem.W.keepIn K (.ref f_ladder_check_end) = true)
    (a_ladder_check_level : PySem.W.findIn K (.ref c_Ladder) "_check_level" = some (some (.ref f_ladder_check_level)))
    (l_ladder_check_level : K.lookup f_ladder_check_level = some ⟨oc_ladder_check_level, od_ladder_check_level, .func (PySem.W.fnOf "_check_level" "Ladder._check_level" (defArgs s_ladder_check_level) (defBody s_ladder_check_level) (defScope s_ladder_check_level) .none kV_ladder_check_level dc_ladder_check_level pm_ladder_check_level an_ladder_check_level cd_ladder_check_level ct_ladder_check_level), sl_ladder_check_level⟩)
    (c_ladder_check_level : PySem.W.codeIn K cd_ladder_check_level "Ladder._check_level" = true)
    (k_ladder_check_level : PySem.W.keepIn K (.ref f_ladder_check_level) = true)
    (a_ladder_check_place : PySem.W.findIn K (.ref c_Ladder) "_check_place" = some (some (.ref f_ladder_check_place)))
    (l_ladder_check_place : K.lookup f_ladder_check_place = some ⟨oc_ladder_check_place, od_ladder_check_place, .func (PySem.W.fnOf "_check_place" "Ladder._check_place" (defArgs s_ladder_check_place) (defBody s_ladder_check_place) (defScope s_ladder_check_place) .none kV_ladder_check_place dc_ladder_check_place pm_ladder_check_place an_ladder_check_place cd_ladder_check_place ct_ladder_check_place), sl_ladder_check_place⟩)
    (c_ladder_check_place : PySem.W.codeIn K cd_ladder_check_place "Ladder._check_place" = true)
    (k_ladder_check_place : PySem.W.keepIn K (.ref f_ladder_check_place) = true)
    (a_ladder_spot : PySem.W.findIn K (.ref c_Ladder) "_spot" = some (some (.ref f_ladder_spot)))
    (l_ladder_spot : K.lookup f_ladder_spot = some ⟨oc_ladder_spot, od_ladder_spot, .func (PySem.W.fnOf "_spot" "Ladder._spot" (defArgs s_ladder_spot) (defBody s_ladder_spot) (defScope s_ladder_spot) .none kV_ladder_spot dc_ladder_spot pm_ladder_spot an_ladder_spot cd_ladder_spot ct_ladder_spot), sl_ladder_spot⟩)
    (c_ladder_spot : PySem.W.codeIn K cd_ladder_spot "Ladder._spot" = true)
    (k_ladder_spot : PySem.W.keepIn K (.ref f_ladder_spot) = true)
    (a_ladder_at_or_none : PySem.W.findIn K (.ref c_Ladder) "_at_or_none" = some (some (.ref f_ladder_at_or_none)))
    (l_ladder_at_or_none : K.lookup f_ladder_at_or_none = some ⟨oc_ladder_at_or_none, od_ladder_at_or_none, .func (PySem.W.fnOf "_at_or_none" "Ladder._at_or_none" (defArgs s_ladder_at_or_none) (defBody s_ladder_at_or_none) (defScope s_ladder_at_or_none) .none kV_ladder_at_or_none dc_ladder_at_or_none pm_ladder_at_or_none an_ladder_at_or_none cd_ladder_at_or_none ct_ladder_at_or_none), sl_ladder_at_or_none⟩)
    (c_ladder_at_or_none : PySem.W.codeIn K cd_ladder_at_or_none "Ladder._at_or_none" = true)
    (k_ladder_at_or_none : PySem.W.keepIn K (.ref f_ladder_at_or_none) = true)
    (a_ladder_before : PySem.W.findIn K (.ref c_Ladder) "_before" = some (some (.ref f_ladder_before)))
    (l_ladder_before : K.lookup f_ladder_before = some ⟨oc_ladder_before, od_ladder_before, .func (PySem.W.fnOf "_before" "Ladder._before" (defArgs s_ladder_before) (defBody s_ladder_before) (defScope s_ladder_before) .none kV_ladder_before dc_ladder_before pm_ladder_before an_ladder_before cd_ladder_before ct_ladder_before), sl_ladder_before⟩)
    (c_ladder_before : PySem.W.codeIn K cd_ladder_before "Ladder._before" = true)
    (k_ladder_before : PySem.W.keepIn K (.ref f_ladder_before) = true)
    (a_ladder_begin : PySem.W.findIn K (.ref c_Ladder) "_begin" = some (some (.ref f_ladder_begin)))
    (l_ladder_begin : K.lookup f_ladder_begin = some ⟨oc_ladder_begin, od_ladder_begin, .func (PySem.W.fnOf "_begin" "Ladder._begin" (defArgs s_ladder_begin) (defBody s_ladder_begin) (defScope s_ladder_begin) .none kV_ladder_begin dc_ladder_begin pm_ladder_begin an_ladder_begin cd_ladder_begin ct_ladder_begin), sl_ladder_begin⟩)
    (c_ladder_begin : PySem.W.codeIn K cd_ladder_begin "Ladder._begin" = true)
    (k_ladder_begin : PySem.W.keepIn K (.ref f_ladder_begin) = true)
    (a_ladder_reach : PySem.W.findIn K (.ref c_Ladder) "_reach" = some (some (.ref f_ladder_reach)))
    (l_ladder_reach : K.lookup f_ladder_reach = some ⟨oc_ladder_reach, od_ladder_reach, .func (PySem.W.fnOf "_reach" "Ladder._reach" (defArgs s_ladder_reach) (defBody s_ladder_reach) (defScope s_ladder_reach) .none kV_ladder_reach dc_ladder_reach pm_ladder_reach an_ladder_reach cd_ladder_reach ct_ladder_reach), sl_ladder_reach⟩)
    (c_ladder_reach : PySem.W.codeIn K cd_ladder_reach "Ladder._reach" = true)
    (k_ladder_reach : PySem.W.keepIn K (.ref f_ladder_reach) = true)
    (a_ladder_heirs : PySem.W.findIn K (.ref c_Ladder) "_heirs" = some (some (.ref f_ladder_heirs)))
    (l_ladder_heirs : K.lookup f_ladder_heirs = some ⟨oc_ladder_heirs, od_ladder_heirs, .func (PySem.W.fnOf "_heirs" "Ladder._heirs" (defArgs s_ladder_heirs) (defBody s_ladder_heirs) (defScope s_ladder_heirs) .none kV_ladder_heirs dc_ladder_heirs pm_ladder_heirs an_ladder_heirs cd_ladder_heirs ct_ladder_heirs), sl_ladder_heirs⟩)
    (c_ladder_heirs : PySem.W.codeIn K cd_ladder_heirs "Ladder._heirs" = true)
    (k_ladder_heirs : PySem.W.keepIn K (.ref f_ladder_heirs) = true)
    (a_ladder_walk : PySem.W.findIn K (.ref c_Ladder) "_walk" = some (some (.ref f_ladder_walk)))
    (l_ladder_walk : K.lookup f_ladder_walk = some ⟨oc_ladder_walk, od_ladder_walk, .func (PySem.W.fnOf "_walk" "Ladder._walk" (defArgs s_ladder_walk) (defBody s_ladder_walk) (defScope s_ladder_walk) .none kV_ladder_walk dc_ladder_walk pm_ladder_walk an_ladder_walk cd_ladder_walk ct_ladder_walk), sl_ladder_walk⟩)
    (c_ladder_walk : PySem.W.codeIn K cd_ladder_walk "Ladder._walk" = true)
    (k_ladder_walk : PySem.W.keepIn K (.ref f_ladder_walk) = true)
    (a_cut : PySem.W.nsIn K mainGlobals "cut" = some (some (.ref f_cut)))
    (l_cut : K.lookup f_cut = some ⟨oc_cut, od_cut, .func (PySem.W.fnOf "cut" "cut" (defArgs s_cut) (defBody s_cut) (defScope s_cut) .none kV_cut dc_cut pm_cut an_cut cd_cut ct_cut), sl_cut⟩)
    (c_cut : PySem.W.codeIn K cd_cut "cut" = true)
    (k_cut : PySem.W.keepIn K (.ref f_cut) = true)
    (a_poured : PySem.W.nsIn K mainGlobals "poured" = some (some (.ref f_poured)))
    (l_poured : K.lookup f_poured = some ⟨oc_poured, od_poured, .func (PySem.W.fnOf "poured" "poured" (defArgs s_poured) (defBody s_poured) (defScope s_poured) .none kV_poured dc_poured pm_poured an_poured cd_poured ct_poured), sl_poured⟩)
    (c_poured : PySem.W.codeIn K cd_poured "poured" = true)
    (k_poured : PySem.W.keepIn K (.ref f_poured) = true)
    (a_l_cell_at : PySem.W.nsIn K mainGlobals "_law_cell_at" = some (some (.ref f_l_cell_at)))
    (l_l_cell_at : K.lookup f_l_cell_at = some ⟨oc_l_cell_at, od_l_cell_at, .func (PySem.W.fnOf "_law_cell_at" "_law_cell_at" (defArgs s_l_cell_at) (defBody s_l_cell_at) (defScope s_l_cell_at) .none kV_l_cell_at dc_l_cell_at pm_l_cell_at an_l_cell_at cd_l_cell_at ct_l_cell_at), sl_l_cell_at⟩)
    (c_l_cell_at : PySem.W.codeIn K cd_l_cell_at "_law_cell_at" = true)
    (k_l_cell_at : PySem.W.keepIn K (.ref f_l_cell_at) = true)
    (a_l_number : PySem.W.nsIn K mainGlobals "_law_number" = some (some (.ref f_l_number)))
    (l_l_number : K.lookup f_l_number = some ⟨oc_l_number, od_l_number, .func (PySem.W.fnOf "_law_number" "_law_number" (defArgs s_l_number) (defBody s_l_number) (defScope s_l_number) .none kV_l_number dc_l_number pm_l_number an_l_number cd_l_number ct_l_number), sl_l_number⟩)
    (c_l_number : PySem.W.codeIn K cd_l_number "_law_number" = true)
    (k_l_number : PySem.W.keepIn K (.ref f_l_number) = true)
    (a_l_deed : PySem.W.nsIn K mainGlobals "_law_deed" = some (some (.ref f_l_deed)))
    (l_l_deed : K.lookup f_l_deed = some ⟨oc_l_deed, od_l_deed, .func (PySem.W.fnOf "_law_deed" "_law_deed" (defArgs s_l_deed) (defBody s_l_deed) (defScope s_l_deed) .none kV_l_deed dc_l_deed pm_l_deed an_l_deed cd_l_deed ct_l_deed), sl_l_deed⟩)
    (c_l_deed : PySem.W.codeIn K cd_l_deed "_law_deed" = true)
    (k_l_deed : PySem.W.keepIn K (.ref f_l_deed) = true)
    (a_l_told : PySem.W.nsIn K mainGlobals "_law_told" = some (some (.ref f_l_told)))
    (l_l_told : K.lookup f_l_told = some ⟨oc_l_told, od_l_told, .func (PySem.W.fnOf "_law_told" "_law_told" (defArgs s_l_told) (defBody s_l_told) (defScope s_l_told) .none kV_l_told dc_l_told pm_l_told an_l_told cd_l_told ct_l_told), sl_l_told⟩)
    (c_l_told : PySem.W.codeIn K cd_l_told "_law_told" = true)
    (k_l_told : PySem.W.keepIn K (.ref f_l_told) = true)
    (a_l_made : PySem.W.nsIn K mainGlobals "_law_made" = some (some (.ref f_l_made)))
    (l_l_made : K.lookup f_l_made = some ⟨oc_l_made, od_l_made, .func (PySem.W.fnOf "_law_made" "_law_made" (defArgs s_l_made) (defBody s_l_made) (defScope s_l_made) .none kV_l_made dc_l_made pm_l_made an_l_made cd_l_made ct_l_made), sl_l_made⟩)
    (c_l_made : PySem.W.codeIn K cd_l_made "_law_made" = true)
    (k_l_made : PySem.W.keepIn K (.ref f_l_made) = true)
    (a_l_refused : PySem.W.nsIn K mainGlobals "_law_refused" = some (some (.ref f_l_refused)))
    (l_l_refused : K.lookup f_l_refused = some ⟨oc_l_refused, od_l_refused, .func (PySem.W.fnOf "_law_refused" "_law_refused" (defArgs s_l_refused) (defBody s_l_refused) (defScope s_l_refused) .none kV_l_refused dc_l_refused pm_l_refused an_l_refused cd_l_refused ct_l_refused), sl_l_refused⟩)
    (c_l_refused : PySem.W.codeIn K cd_l_refused "_law_refused" = true)
    (k_l_refused : PySem.W.keepIn K (.ref f_l_refused) = true)
    (a_l_refused_by_any : PySem.W.nsIn K mainGlobals "_law_refused_by_any" = some (some (.ref f_l_refused_by_any)))
    (l_l_refused_by_any : K.lookup f_l_refused_by_any = some ⟨oc_l_refused_by_any, od_l_refused_by_any, .func (PySem.W.fnOf "_law_refused_by_any" "_law_refused_by_any" (defArgs s_l_refused_by_any) (defBody s_l_refused_by_any) (defScope s_l_refused_by_any) .none kV_l_refused_by_any dc_l_refused_by_any pm_l_refused_by_any an_l_refused_by_any cd_l_refused_by_any ct_l_refused_by_any), sl_l_refused_by_any⟩)
    (c_l_refused_by_any : PySem.W.codeIn K cd_l_refused_by_any "_law_refused_by_any" = true)
    (k_l_refused_by_any : PySem.W.keepIn K (.ref f_l_refused_by_any) = true)
    (a_l_half : PySem.W.nsIn K mainGlobals "_law_half" = some (some (.ref f_l_half)))
    (l_l_half : K.lookup f_l_half = some ⟨oc_l_half, od_l_half, .func (PySem.W.fnOf "_law_half" "_law_half" (defArgs s_l_half) (defBody s_l_half) (defScope s_l_half) .none kV_l_half dc_l_half pm_l_half an_l_half cd_l_half ct_l_half), sl_l_half⟩)
    (c_l_half : PySem.W.codeIn K cd_l_half "_law_half" = true)
    (k_l_half : PySem.W.keepIn K (.ref f_l_half) = true)
    (a_l_goes_on : PySem.W.nsIn K mainGlobals "_law_goes_on" = some (some (.ref f_l_goes_on)))
    (l_l_goes_on : K.lookup f_l_goes_on = some ⟨oc_l_goes_on, od_l_goes_on, .func (PySem.W.fnOf "_law_goes_on" "_law_goes_on" (defArgs s_l_goes_on) (defBody s_l_goes_on) (defScope s_l_goes_on) .none kV_l_goes_on dc_l_goes_on pm_l_goes_on an_l_goes_on cd_l_goes_on ct_l_goes_on), sl_l_goes_on⟩)
    (c_l_goes_on : PySem.W.codeIn K cd_l_goes_on "_law_goes_on" = true)
    (k_l_goes_on : PySem.W.keepIn K (.ref f_l_goes_on) = true)
    (a_l_ends : PySem.W.nsIn K mainGlobals "_law_ends" = some (some (.ref f_l_ends)))
    (l_l_ends : K.lookup f_l_ends = some ⟨oc_l_ends, od_l_ends, .func (PySem.W.fnOf "_law_ends" "_law_ends" (defArgs s_l_ends) (defBody s_l_ends) (defScope s_l_ends) .none kV_l_ends dc_l_ends pm_l_ends an_l_ends cd_l_ends ct_l_ends), sl_l_ends⟩)
    (c_l_ends : PySem.W.codeIn K cd_l_ends "_law_ends" = true)
    (k_l_ends : PySem.W.keepIn K (.ref f_l_ends) = true)
    (a_l_again : PySem.W.nsIn K mainGlobals "_law_again" = some (some (.ref f_l_again)))
    (l_l_again : K.lookup f_l_again = some ⟨oc_l_again, od_l_again, .func (PySem.W.fnOf "_law_again" "_law_again" (defArgs s_l_again) (defBody s_l_again) (defScope s_l_again) .none kV_l_again dc_l_again pm_l_again an_l_again cd_l_again ct_l_again), sl_l_again⟩)
    (c_l_again : PySem.W.codeIn K cd_l_again "_law_again" = true)
    (k_l_again : PySem.W.keepIn K (.ref f_l_again) = true)
    (a_l_woven : PySem.W.nsIn K mainGlobals "_law_woven" = some (some (.ref f_l_woven)))
    (l_l_woven : K.lookup f_l_woven = some ⟨oc_l_woven, od_l_woven, .func (PySem.W.fnOf "_law_woven" "_law_woven" (defArgs s_l_woven) (defBody s_l_woven) (defScope s_l_woven) .none kV_l_woven dc_l_woven pm_l_woven an_l_woven cd_l_woven ct_l_woven), sl_l_woven⟩)
    (c_l_woven : PySem.W.codeIn K cd_l_woven "_law_woven" = true)
    (k_l_woven : PySem.W.keepIn K (.ref f_l_woven) = true)
    (a_l_is_there : PySem.W.nsIn K mainGlobals "_law_is_there" = some (some (.ref f_l_is_there)))
    (l_l_is_there : K.lookup f_l_is_there = some ⟨oc_l_is_there, od_l_is_there, .func (PySem.W.fnOf "_law_is_there" "_law_is_there" (defArgs s_l_is_there) (defBody s_l_is_there) (defScope s_l_is_there) .none kV_l_is_there dc_l_is_there pm_l_is_there an_l_is_there cd_l_is_there ct_l_is_there), sl_l_is_there⟩)
    (c_l_is_there : PySem.W.codeIn K cd_l_is_there "_law_is_there" = true)
    (k_l_is_there : PySem.W.keepIn K (.ref f_l_is_there) = true)
    (a_l_by_turns : PySem.W.nsIn K mainGlobals "_law_by_turns" = some (some (.ref f_l_by_turns)))
    (l_l_by_turns : K.lookup f_l_by_turns = some ⟨oc_l_by_turns, od_l_by_turns, .func (PySem.W.fnOf "_law_by_turns" "_law_by_turns" (defArgs s_l_by_turns) (defBody s_l_by_turns) (defScope s_l_by_turns) .none kV_l_by_turns dc_l_by_turns pm_l_by_turns an_l_by_turns cd_l_by_turns ct_l_by_turns), sl_l_by_turns⟩)
    (c_l_by_turns : PySem.W.codeIn K cd_l_by_turns "_law_by_turns" = true)
    (k_l_by_turns : PySem.W.keepIn K (.ref f_l_by_turns) = true)
    (a_l_mated : PySem.W.nsIn K mainGlobals "_law_mated" = some (some (.ref f_l_mated)))
    (l_l_mated : K.lookup f_l_mated = some ⟨oc_l_mated, od_l_mated, .func (PySem.W.fnOf "_law_mated" "_law_mated" (defArgs s_l_mated) (defBody s_l_mated) (defScope s_l_mated) .none kV_l_mated dc_l_mated pm_l_mated an_l_mated cd_l_mated ct_l_mated), sl_l_mated⟩)
    (c_l_mated : PySem.W.codeIn K cd_l_mated "_law_mated" = true)
    (k_l_mated : PySem.W.keepIn K (.ref f_l_mated) = true)
    (a_l_cut : PySem.W.nsIn K mainGlobals "_law_cut" = some (some (.ref f_l_cut)))
    (l_l_cut : K.lookup f_l_cut = some ⟨oc_l_cut, od_l_cut, .func (PySem.W.fnOf "_law_cut" "_law_cut" (defArgs s_l_cut) (defBody s_l_cut) (defScope s_l_cut) .none kV_l_cut dc_l_cut pm_l_cut an_l_cut cd_l_cut ct_l_cut), sl_l_cut⟩)
    (c_l_cut : PySem.W.codeIn K cd_l_cut "_law_cut" = true)
    (k_l_cut : PySem.W.keepIn K (.ref f_l_cut) = true)
    (a_law : PySem.W.nsIn K mainGlobals "law" = some (some (.ref f_law)))
    (l_law : K.lookup f_law = some ⟨oc_law, od_law, .func (PySem.W.fnOf "law" "law" (defArgs s_law) (defBody s_law) (defScope s_law) .none kV_law dc_law pm_law an_law cd_law ct_law), sl_law⟩)
    (c_law : PySem.W.codeIn K cd_law "law" = true)
    (k_law : PySem.W.keepIn K (.ref f_law) = true)
    (z_ValueError : PySem.W.nsIn K mainGlobals "ValueError" = some none)
    (z_all : PySem.W.nsIn K mainGlobals "all" = some none)
    (z_enumerate : PySem.W.nsIn K mainGlobals "enumerate" = some none)
    (z_int : PySem.W.nsIn K mainGlobals "int" = some none)
    (z_isinstance : PySem.W.nsIn K mainGlobals "isinstance" = some none)
    (z_len : PySem.W.nsIn K mainGlobals "len" = some none)
    (z_list : PySem.W.nsIn K mainGlobals "list" = some none)
    (z_min : PySem.W.nsIn K mainGlobals "min" = some none)
    (z_range : PySem.W.nsIn K mainGlobals "range" = some none)
    (z_reversed : PySem.W.nsIn K mainGlobals "reversed" = some none)
    (z_sorted : PySem.W.nsIn K mainGlobals "sorted" = some none)
    (z_tuple : PySem.W.nsIn K mainGlobals "tuple" = some none)
    (pg_Ladder : PySem.W.plainGet K c_Ladder Str.empty = true)
    (hd_Ladder : PySem.W.hasDictIn K c_Ladder = true)
    (po_Ladder : PySem.W.plainOver K c_Ladder = true)
    (sa_Ladder : PySem.W.findIn K (.ref c_Ladder) "__setattr__" = some (some (.builtin "object.__setattr__")))
    (ma_Ladder : PySem.W.makesIn K c_Ladder = true)
    (kc_Ladder : PySem.W.keepIn K (.ref c_Ladder) = true)
    (i_ladder_init : PySem.W.isFn K (.ref f_ladder_init) = true)
    (i_ladder_put : PySem.W.isFn K (.ref f_ladder_put) = true)
    (i_ladder_take : PySem.W.isFn K (.ref f_ladder_take) = true)
    (i_ladder_has : PySem.W.isFn K (.ref f_ladder_has) = true)
    (i_ladder_row : PySem.W.isFn K (.ref f_ladder_row) = true)
    (i_ladder_level : PySem.W.isFn K (.ref f_ladder_level) = true)
    (i_ladder_ahead : PySem.W.isFn K (.ref f_ladder_ahead) = true)
    (i_ladder_trail : PySem.W.isFn K (.ref f_ladder_trail) = true)
    (i_ladder_below : PySem.W.isFn K (.ref f_ladder_below) = true)
    (i_ladder_above : PySem.W.isFn K (.ref f_ladder_above) = true)
    (i_ladder_place : PySem.W.isFn K (.ref f_ladder_place) = true)
    (i_ladder_at : PySem.W.isFn K (.ref f_ladder_at) = true)
    (i_ladder_way : PySem.W.isFn K (.ref f_ladder_way) = true)
    (i_ladder_stretch : PySem.W.isFn K (.ref f_ladder_stretch) = true)
    (i_ladder_counted : PySem.W.isFn K (.ref f_ladder_counted) = true)
    (i_ladder_check_number : PySem.W.isFn K (.ref f_ladder_check_number) = true)
    (i_ladder_check_end : PySem.W.isFn K (.ref f_ladder_check_end) = true)
    (i_ladder_check_level : PySem.W.isFn K (.ref f_ladder_check_level) = true)
    (i_ladder_check_place : PySem.W.isFn K (.ref f_ladder_check_place) = true)
    (i_ladder_spot : PySem.W.isFn K (.ref f_ladder_spot) = true)
    (i_ladder_at_or_none : PySem.W.isFn K (.ref f_ladder_at_or_none) = true)
    (i_ladder_before : PySem.W.isFn K (.ref f_ladder_before) = true)
    (i_ladder_begin : PySem.W.isFn K (.ref f_ladder_begin) = true)
    (i_ladder_reach : PySem.W.isFn K (.ref f_ladder_reach) = true)
    (i_ladder_heirs : PySem.W.isFn K (.ref f_ladder_heirs) = true)
    (i_ladder_walk : PySem.W.isFn K (.ref f_ladder_walk) = true)
    (n_Ladder_width : PySem.W.findIn K (.ref c_Ladder) "width" = some none)
    (n_Ladder_high : PySem.W.findIn K (.ref c_Ladder) "high" = some none)
    (n_Ladder_limit : PySem.W.findIn K (.ref c_Ladder) "limit" = some none)
    (n_Ladder_many : PySem.W.findIn K (.ref c_Ladder) "many" = some none)
    (n_Ladder__row : PySem.W.findIn K (.ref c_Ladder) "_row" = some none)
    (xp_BadSize : PySem.W.excIn K c_BadSize [.type "ValueError", .type "Exception", .type "BaseException", .type "object"] "ValueError.__new__" = true)
    (kp_BadSize : PySem.W.keepIn K (.ref c_BadSize) = true)
    (bp_BadSize : PySem.W.subIn K (.ref c_BadSize) (.type "BaseException") = some true)
    (tp_BadSize : PySem.W.typeIn K (.ref c_BadSize) = some (.type "type"))
    (xp_OutOfRange : PySem.W.excIn K c_OutOfRange [.type "ValueError", .type "Exception", .type "BaseException", .type "object"] "ValueError.__new__" = true)
    (kp_OutOfRange : PySem.W.keepIn K (.ref c_OutOfRange) = true)
    (bp_OutOfRange : PySem.W.subIn K (.ref c_OutOfRange) (.type "BaseException") = some true)
    (tp_OutOfRange : PySem.W.typeIn K (.ref c_OutOfRange) = some (.type "type"))
    (xp_Present : PySem.W.excIn K c_Present [.type "ValueError", .type "Exception", .type "BaseException", .type "object"] "ValueError.__new__" = true)
    (kp_Present : PySem.W.keepIn K (.ref c_Present) = true)
    (bp_Present : PySem.W.subIn K (.ref c_Present) (.type "BaseException") = some true)
    (tp_Present : PySem.W.typeIn K (.ref c_Present) = some (.type "type"))
    (xp_Missing : PySem.W.excIn K c_Missing [.type "ValueError", .type "Exception", .type "BaseException", .type "object"] "ValueError.__new__" = true)
    (kp_Missing : PySem.W.keepIn K (.ref c_Missing) = true)
    (bp_Missing : PySem.W.subIn K (.ref c_Missing) (.type "BaseException") = some true)
    (tp_Missing : PySem.W.typeIn K (.ref c_Missing) = some (.type "type"))
    (xp_NoLevel : PySem.W.excIn K c_NoLevel [.type "ValueError", .type "Exception", .type "BaseException", .type "object"] "ValueError.__new__" = true)
    (kp_NoLevel : PySem.W.keepIn K (.ref c_NoLevel) = true)
    (bp_NoLevel : PySem.W.subIn K (.ref c_NoLevel) (.type "BaseException") = some true)
    (tp_NoLevel : PySem.W.typeIn K (.ref c_NoLevel) = some (.type "type"))
    (xp_NoPlace : PySem.W.excIn K c_NoPlace [.type "ValueError", .type "Exception", .type "BaseException", .type "object"] "ValueError.__new__" = true)
    (kp_NoPlace : PySem.W.keepIn K (.ref c_NoPlace) = true)
    (bp_NoPlace : PySem.W.subIn K (.ref c_NoPlace) (.type "BaseException") = some true)
    (tp_NoPlace : PySem.W.typeIn K (.ref c_NoPlace) = some (.type "type"))
    (xp_OtherSize : PySem.W.excIn K c_OtherSize [.type "ValueError", .type "Exception", .type "BaseException", .type "object"] "ValueError.__new__" = true)
    (kp_OtherSize : PySem.W.keepIn K (.ref c_OtherSize) = true)
    (bp_OtherSize : PySem.W.subIn K (.ref c_OtherSize) (.type "BaseException") = some true)
    (tp_OtherSize : PySem.W.typeIn K (.ref c_OtherSize) = some (.type "type"))
    (exm_BadSize_OtherSize : PySem.W.exmOne K (.ref c_BadSize) (.ref c_OtherSize) = some false)
    (exm_BadSize_Present : PySem.W.exmOne K (.ref c_BadSize) (.ref c_Present) = some false)
    (exm_BadSize_OutOfRange : PySem.W.exmOne K (.ref c_BadSize) (.ref c_OutOfRange) = some false)
    (exm_BadSize_LadderError : PySem.W.exmOne K (.ref c_BadSize) (.ref c_LadderError) = some true)
    (exm_BadSize_NoPlace : PySem.W.exmOne K (.ref c_BadSize) (.ref c_NoPlace) = some false)
    (exm_BadSize_Missing : PySem.W.exmOne K (.ref c_BadSize) (.ref c_Missing) = some false)
    (kit_BadSize_ValueError : PySem.W.kitOne K (.ref c_BadSize) (.type "ValueError") = some true)
    (kit_BadSize_LadderError : PySem.W.kitOne K (.ref c_BadSize) (.ref c_LadderError) = some true)
    (e1_BadSize : PySem.W.findIn K (.ref c_BadSize) "__getattribute__" = some (some (.builtin "BaseException.__getattribute__")))
    (e2_BadSize : PySem.W.findIn K (.ref c_BadSize) "__getattr__" = some none)
    (e3_BadSize : PySem.W.subIn K (.ref c_BadSize) (.type "BaseException") = some true)
    (e4_BadSize : PySem.W.hasDictIn K c_BadSize = true)
    (e5_BadSize : PySem.W.findIn K (.ref c_BadSize) "__class__" = some (some (.builtin "object.__class__")))
    (e8_BadSize : PySem.W.mroIn K c_BadSize (.type "object") = some true)
    (exm_OutOfRange_OtherSize : PySem.W.exmOne K (.ref c_OutOfRange) (.ref c_OtherSize) = some false)
    (exm_OutOfRange_Present : PySem.W.exmOne K (.ref c_OutOfRange) (.ref c_Present) = some false)
    (exm_OutOfRange_OutOfRange : PySem.W.exmOne K (.ref c_OutOfRange) (.ref c_OutOfRange) = some true)
    (exm_OutOfRange_LadderError : PySem.W.exmOne K (.ref c_OutOfRange) (.ref c_LadderError) = some true)
    (exm_OutOfRange_NoPlace : PySem.W.exmOne K (.ref c_OutOfRange) (.ref c_NoPlace) = some false)
    (exm_OutOfRange_Missing : PySem.W.exmOne K (.ref c_OutOfRange) (.ref c_Missing) = some false)
    (kit_OutOfRange_ValueError : PySem.W.kitOne K (.ref c_OutOfRange) (.type "ValueError") = some true)
    (kit_OutOfRange_LadderError : PySem.W.kitOne K (.ref c_OutOfRange) (.ref c_LadderError) = some true)
    (e1_OutOfRange : PySem.W.findIn K (.ref c_OutOfRange) "__getattribute__" = some (some (.builtin "BaseException.__getattribute__")))
    (e2_OutOfRange : PySem.W.findIn K (.ref c_OutOfRange) "__getattr__" = some none)
    (e3_OutOfRange : PySem.W.subIn K (.ref c_OutOfRange) (.type "BaseException") = some true)
    (e4_OutOfRange : PySem.W.hasDictIn K c_OutOfRange = true)
    (e5_OutOfRange : PySem.W.findIn K (.ref c_OutOfRange) "__class__" = some (some (.builtin "object.__class__")))
    (e8_OutOfRange : PySem.W.mroIn K c_OutOfRange (.type "object") = some true)
    (exm_Present_OtherSize : PySem.W.exmOne K (.ref c_Present) (.ref c_OtherSize) = some false)
    (exm_Present_Present : PySem.W.exmOne K (.ref c_Present) (.ref c_Present) = some true)
    (exm_Present_OutOfRange : PySem.W.exmOne K (.ref c_Present) (.ref c_OutOfRange) = some false)
    (exm_Present_LadderError : PySem.W.exmOne K (.ref c_Present) (.ref c_LadderError) = some true)
    (exm_Present_NoPlace : PySem.W.exmOne K (.ref c_Present) (.ref c_NoPlace) = some false)
    (exm_Present_Missing : PySem.W.exmOne K (.ref c_Present) (.ref c_Missing) = some false)
    (kit_Present_ValueError : PySem.W.kitOne K (.ref c_Present) (.type "ValueError") = some true)
    (kit_Present_LadderError : PySem.W.kitOne K (.ref c_Present) (.ref c_LadderError) = some true)
    (e1_Present : PySem.W.findIn K (.ref c_Present) "__getattribute__" = some (some (.builtin "BaseException.__getattribute__")))
    (e2_Present : PySem.W.findIn K (.ref c_Present) "__getattr__" = some none)
    (e3_Present : PySem.W.subIn K (.ref c_Present) (.type "BaseException") = some true)
    (e4_Present : PySem.W.hasDictIn K c_Present = true)
    (e5_Present : PySem.W.findIn K (.ref c_Present) "__class__" = some (some (.builtin "object.__class__")))
    (e8_Present : PySem.W.mroIn K c_Present (.type "object") = some true)
    (exm_Missing_OtherSize : PySem.W.exmOne K (.ref c_Missing) (.ref c_OtherSize) = some false)
    (exm_Missing_Present : PySem.W.exmOne K (.ref c_Missing) (.ref c_Present) = some false)
    (exm_Missing_OutOfRange : PySem.W.exmOne K (.ref c_Missing) (.ref c_OutOfRange) = some false)
    (exm_Missing_LadderError : PySem.W.exmOne K (.ref c_Missing) (.ref c_LadderError) = some true)
    (exm_Missing_NoPlace : PySem.W.exmOne K (.ref c_Missing) (.ref c_NoPlace) = some false)
    (exm_Missing_Missing : PySem.W.exmOne K (.ref c_Missing) (.ref c_Missing) = some true)
    (kit_Missing_ValueError : PySem.W.kitOne K (.ref c_Missing) (.type "ValueError") = some true)
    (kit_Missing_LadderError : PySem.W.kitOne K (.ref c_Missing) (.ref c_LadderError) = some true)
    (e1_Missing : PySem.W.findIn K (.ref c_Missing) "__getattribute__" = some (some (.builtin "BaseException.__getattribute__")))
    (e2_Missing : PySem.W.findIn K (.ref c_Missing) "__getattr__" = some none)
    (e3_Missing : PySem.W.subIn K (.ref c_Missing) (.type "BaseException") = some true)
    (e4_Missing : PySem.W.hasDictIn K c_Missing = true)
    (e5_Missing : PySem.W.findIn K (.ref c_Missing) "__class__" = some (some (.builtin "object.__class__")))
    (e8_Missing : PySem.W.mroIn K c_Missing (.type "object") = some true)
    (exm_NoLevel_OtherSize : PySem.W.exmOne K (.ref c_NoLevel) (.ref c_OtherSize) = some false)
    (exm_NoLevel_Present : PySem.W.exmOne K (.ref c_NoLevel) (.ref c_Present) = some false)
    (exm_NoLevel_OutOfRange : PySem.W.exmOne K (.ref c_NoLevel) (.ref c_OutOfRange) = some false)
    (exm_NoLevel_LadderError : PySem.W.exmOne K (.ref c_NoLevel) (.ref c_LadderError) = some true)
    (exm_NoLevel_NoPlace : PySem.W.exmOne K (.ref c_NoLevel) (.ref c_NoPlace) = some false)
    (exm_NoLevel_Missing : PySem.W.exmOne K (.ref c_NoLevel) (.ref c_Missing) = some false)
    (kit_NoLevel_ValueError : PySem.W.kitOne K (.ref c_NoLevel) (.type "ValueError") = some true)
    (kit_NoLevel_LadderError : PySem.W.kitOne K (.ref c_NoLevel) (.ref c_LadderError) = some true)
    (e1_NoLevel : PySem.W.findIn K (.ref c_NoLevel) "__getattribute__" = some (some (.builtin "BaseException.__getattribute__")))
    (e2_NoLevel : PySem.W.findIn K (.ref c_NoLevel) "__getattr__" = some none)
    (e3_NoLevel : PySem.W.subIn K (.ref c_NoLevel) (.type "BaseException") = some true)
    (e4_NoLevel : PySem.W.hasDictIn K c_NoLevel = true)
    (e5_NoLevel : PySem.W.findIn K (.ref c_NoLevel) "__class__" = some (some (.builtin "object.__class__")))
    (e8_NoLevel : PySem.W.mroIn K c_NoLevel (.type "object") = some true)
    (exm_NoPlace_OtherSize : PySem.W.exmOne K (.ref c_NoPlace) (.ref c_OtherSize) = some false)
    (exm_NoPlace_Present : PySem.W.exmOne K (.ref c_NoPlace) (.ref c_Present) = some false)
    (exm_NoPlace_OutOfRange : PySem.W.exmOne K (.ref c_NoPlace) (.ref c_OutOfRange) = some false)
    (exm_NoPlace_LadderError : PySem.W.exmOne K (.ref c_NoPlace) (.ref c_LadderError) = some true)
    (exm_NoPlace_NoPlace : PySem.W.exmOne K (.ref c_NoPlace) (.ref c_NoPlace) = some true)
    (exm_NoPlace_Missing : PySem.W.exmOne K (.ref c_NoPlace) (.ref c_Missing) = some false)
    (kit_NoPlace_ValueError : PySem.W.kitOne K (.ref c_NoPlace) (.type "ValueError") = some true)
    (kit_NoPlace_LadderError : PySem.W.kitOne K (.ref c_NoPlace) (.ref c_LadderError) = some true)
    (e1_NoPlace : PySem.W.findIn K (.ref c_NoPlace) "__getattribute__" = some (some (.builtin "BaseException.__getattribute__")))
    (e2_NoPlace : PySem.W.findIn K (.ref c_NoPlace) "__getattr__" = some none)
    (e3_NoPlace : PySem.W.subIn K (.ref c_NoPlace) (.type "BaseException") = some true)
    (e4_NoPlace : PySem.W.hasDictIn K c_NoPlace = true)
    (e5_NoPlace : PySem.W.findIn K (.ref c_NoPlace) "__class__" = some (some (.builtin "object.__class__")))
    (e8_NoPlace : PySem.W.mroIn K c_NoPlace (.type "object") = some true)
    (exm_OtherSize_OtherSize : PySem.W.exmOne K (.ref c_OtherSize) (.ref c_OtherSize) = some true)
    (exm_OtherSize_Present : PySem.W.exmOne K (.ref c_OtherSize) (.ref c_Present) = some false)
    (exm_OtherSize_OutOfRange : PySem.W.exmOne K (.ref c_OtherSize) (.ref c_OutOfRange) = some false)
    (exm_OtherSize_LadderError : PySem.W.exmOne K (.ref c_OtherSize) (.ref c_LadderError) = some true)
    (exm_OtherSize_NoPlace : PySem.W.exmOne K (.ref c_OtherSize) (.ref c_NoPlace) = some false)
    (exm_OtherSize_Missing : PySem.W.exmOne K (.ref c_OtherSize) (.ref c_Missing) = some false)
    (kit_OtherSize_ValueError : PySem.W.kitOne K (.ref c_OtherSize) (.type "ValueError") = some true)
    (kit_OtherSize_LadderError : PySem.W.kitOne K (.ref c_OtherSize) (.ref c_LadderError) = some true)
    (e1_OtherSize : PySem.W.findIn K (.ref c_OtherSize) "__getattribute__" = some (some (.builtin "BaseException.__getattribute__")))
    (e2_OtherSize : PySem.W.findIn K (.ref c_OtherSize) "__getattr__" = some none)
    (e3_OtherSize : PySem.W.subIn K (.ref c_OtherSize) (.type "BaseException") = some true)
    (e4_OtherSize : PySem.W.hasDictIn K c_OtherSize = true)
    (e5_OtherSize : PySem.W.findIn K (.ref c_OtherSize) "__class__" = some (some (.builtin "object.__class__")))
    (e8_OtherSize : PySem.W.mroIn K c_OtherSize (.type "object") = some true)
    (e6 : PySem.W.specialIn K (.builtin "object.__class__") "__get__" = some (some (.builtin "getset_descriptor.__get__")))
    (e7 : PySem.W.takesIn K (.builtin "object.__class__") = some true)
    : ∃ fd : FuncData, (∀ (s : Shared) (v : Value), BindsTo s fd ⟨[v], []⟩ [("_law_script", v)]) ∧ ∀ base : Heap, K.In base → base.Ns mainGlobals mg → FnOk l.prog w K mg base CX0 26 fa fd ["_law_script"] (sp_law K) := by
  have e := hfa.symm.trans (PySem.W.mg_of X G a_law)
  cases e
  have F_power := fun_mk (st := s_power) l_power c_power k_power
  have bd_power := F_power.binds (ps := ["width", "level"]) fun _ _ _ _ _ _ us hl => match us, hl with | [_, _], _ => rfl
  have F_block := fun_mk (st := s_block) l_block c_block k_block
  have bd_block := F_block.binds (ps := ["width", "level", "number"]) fun _ _ _ _ _ _ us hl => match us, hl with | [_, _, _], _ => rfl
  have F_thinned := fun_mk (st := s_thinned) l_thinned c_thinned k_thinned
  have bd_thinned := F_thinned.binds (ps := ["width", "level", "row"]) fun _ _ _ _ _ _ us hl => match us, hl with | [_, _, _], _ => rfl
  have F_tall := fun_mk (st := s_tall) l_tall c_tall k_tall
  have bd_tall := F_tall.binds (ps := ["width", "high", "before", "number"]) fun _ _ _ _ _ _ us hl => match us, hl with | [_, _, _, _], _ => rfl
  have F_ladder_init := fun_mk (st := s_ladder_init) l_ladder_init c_ladder_init k_ladder_init
  have bd_ladder_init := F_ladder_init.binds (ps := ["self", "width", "high"]) fun _ _ _ _ _ _ us hl => match us, hl with | [_, _, _], _ => rfl
  have F_ladder_put := fun_mk (st := s_ladder_put) l_ladder_put c_ladder_put k_ladder_put
  have bd_ladder_put := F_ladder_put.binds (ps := ["self", "number"]) fun _ _ _ _ _ _ us hl => match us, hl with | [_, _], _ => rfl
  have F_ladder_take := fun_mk (st := s_ladder_take) l_ladder_take c_ladder_take k_ladder_take
  have bd_ladder_take := F_ladder_take.binds (ps := ["self", "number"]) fun _ _ _ _ _ _ us hl => match us, hl with | [_, _], _ => rfl
  have F_ladder_has := fun_mk (st := s_ladder_has) l_ladder_has c_ladder_has k_ladder_has
  have bd_ladder_has := F_ladder_has.binds (ps := ["self", "number"]) fun _ _ _ _ _ _ us hl => match us, hl with | [_, _], _ => rfl
  have F_ladder_row := fun_mk (st := s_ladder_row) l_ladder_row c_ladder_row k_ladder_row
  have bd_ladder_row := F_ladder_row.binds (ps := ["self"]) fun _ _ _ _ _ _ us hl => match us, hl with | [_], _ => rfl
  have F_ladder_level := fun_mk (st := s_ladder_level) l_ladder_level c_ladder_level k_ladder_level
  have bd_ladder_level := F_ladder_level.binds (ps := ["self", "level"]) fun _ _ _ _ _ _ us hl => match us, hl with | [_, _], _ => rfl
  have F_ladder_ahead := fun_mk (st := s_ladder_ahead) l_ladder_ahead c_ladder_ahead k_ladder_ahead
  have bd_ladder_ahead := F_ladder_ahead.binds (ps := ["self", "level", "number"]) fun _ _ _ _ _ _ us hl => match us, hl with | [_, _, _], _ => rfl
  have F_ladder_trail := fun_mk (st := s_ladder_trail) l_ladder_trail c_ladder_trail k_ladder_trail
  have bd_ladder_trail := F_ladder_trail.binds (ps := ["self", "number"]) fun _ _ _ _ _ _ us hl => match us, hl with | [_, _], _ => rfl
  have F_ladder_below := fun_mk (st := s_ladder_below) l_ladder_below c_ladder_below k_ladder_below
  have bd_ladder_below := F_ladder_below.binds (ps := ["self", "number"]) fun _ _ _ _ _ _ us hl => match us, hl with | [_, _], _ => rfl
  have F_ladder_above := fun_mk (st := s_ladder_above) l_ladder_above c_ladder_above k_ladder_above
  have bd_ladder_above := F_ladder_above.binds (ps := ["self", "number"]) fun _ _ _ _ _ _ us hl => match us, hl with | [_, _], _ => rfl
  have F_ladder_place := fun_mk (st := s_ladder_place) l_ladder_place c_ladder_place k_ladder_place
  have bd_ladder_place := F_ladder_place.binds (ps := ["self", "number"]) fun _ _ _ _ _ _ us hl => match us, hl with | [_, _], _ => rfl
  have F_ladder_at := fun_mk (st := s_ladder_at) l_ladder_at c_ladder_at k_ladder_at
  have bd_ladder_at := F_ladder_at.binds (ps := ["self", "place"]) fun _ _ _ _ _ _ us hl => match us, hl with | [_, _], _ => rfl
  have F_ladder_way := fun_mk (st := s_ladder_way) l_ladder_way c_ladder_way k_ladder_way
  have bd_ladder_way := F_ladder_way.binds (ps := ["self", "place"]) fun _ _ _ _ _ _ us hl => match us, hl with | [_, _], _ => rfl
  have F_ladder_stretch := fun_mk (st := s_ladder_stretch) l_ladder_stretch c_ladder_stretch k_ladder_stretch
  have bd_ladder_stretch := F_ladder_stretch.binds (ps := ["self", "low", "high"]) fun _ _ _ _ _ _ us hl => match us, hl with | [_, _, _], _ => rfl
  have F_ladder_counted := fun_mk (st := s_ladder_counted) l_ladder_counted c_ladder_counted k_ladder_counted
  have bd_ladder_counted := F_ladder_counted.binds (ps := ["self", "low", "high"]) fun _ _ _ _ _ _ us hl => match us, hl with | [_, _, _], _ => rfl
  have F_ladder_check_number := fun_mk (st := s_ladder_check_number) l_ladder_check_number c_ladder_check_number k_ladder_check_number
  have bd_ladder_check_number := F_ladder_check_number.binds (ps := ["self", "number"]) fun _ _ _ _ _ _ us hl => match us, hl with | [_, _], _ => rfl
  have F_ladder_check_end := fun_mk (st := s_ladder_check_end) l_ladder_check_end c_ladder_check_end k_ladder_check_end
  have bd_ladder_check_end := F_ladder_check_end.binds (ps := ["self", "number"]) fun _ _ _ _ _ _ us hl => match us, hl with | [_, _], _ => rfl
  have F_ladder_check_level := fun_mk (st := s_ladder_check_level) l_ladder_check_level c_ladder_check_level k_ladder_check_level
  have bd_ladder_check_level := F_ladder_check_level.binds (ps := ["self", "level"]) fun _ _ _ _ _ _ us hl => match us, hl with | [_, _], _ => rfl
  have F_ladder_check_place := fun_mk (st := s_ladder_check_place) l_ladder_check_place c_ladder_check_place k_ladder_check_place
  have bd_ladder_check_place := F_ladder_check_place.binds (ps := ["self", "place"]) fun _ _ _ _ _ _ us hl => match us, hl with | [_, _], _ => rfl
  have F_ladder_spot := fun_mk (st := s_ladder_spot) l_ladder_spot c_ladder_spot k_ladder_spot
  have bd_ladder_spot := F_ladder_spot.binds (ps := ["self", "number"]) fun _ _ _ _ _ _ us hl => match us, hl with | [_, _], _ => rfl
  have F_ladder_at_or_none := fun_mk (st := s_ladder_at_or_none) l_ladder_at_or_none c_ladder_at_or_none k_ladder_at_or_none
  have bd_ladder_at_or_none := F_ladder_at_or_none.binds (ps := ["self", "spot"]) fun _ _ _ _ _ _ us hl => match us, hl with | [_, _], _ => rfl
  have F_ladder_before := fun_mk (st := s_ladder_before) l_ladder_before c_ladder_before k_ladder_before
  have bd_ladder_before := F_ladder_before.binds (ps := ["self", "spot"]) fun _ _ _ _ _ _ us hl => match us, hl with | [_, _], _ => rfl
  have F_ladder_begin := fun_mk (st := s_ladder_begin) l_ladder_begin c_ladder_begin k_ladder_begin
  have bd_ladder_begin := F_ladder_begin.binds (ps := ["self", "level", "number"]) fun _ _ _ _ _ _ us hl => match us, hl with | [_, _, _], _ => rfl
  have F_ladder_reach := fun_mk (st := s_ladder_reach) l_ladder_reach c_ladder_reach k_ladder_reach
  have bd_ladder_reach := F_ladder_reach.binds (ps := ["self", "level", "spot"]) fun _ _ _ _ _ _ us hl => match us, hl with | [_, _, _], _ => rfl
  have F_ladder_heirs := fun_mk (st := s_ladder_heirs) l_ladder_heirs c_ladder_heirs k_ladder_heirs
  have bd_ladder_heirs := F_ladder_heirs.binds (ps := ["self", "number"]) fun _ _ _ _ _ _ us hl => match us, hl with | [_, _], _ => rfl
  have F_ladder_walk := fun_mk (st := s_ladder_walk) l_ladder_walk c_ladder_walk k_ladder_walk
  have bd_ladder_walk := F_ladder_walk.binds (ps := ["self", "last"]) fun _ _ _ _ _ _ us hl => match us, hl with | [_, _], _ => rfl
  have F_cut := fun_mk (st := s_cut) l_cut c_cut k_cut
  have bd_cut := F_cut.binds (ps := ["ladder", "number"]) fun _ _ _ _ _ _ us hl => match us, hl with | [_, _], _ => rfl
  have F_poured := fun_mk (st := s_poured) l_poured c_poured k_poured
  have bd_poured := F_poured.binds (ps := ["ladder", "other"]) fun _ _ _ _ _ _ us hl => match us, hl with | [_, _], _ => rfl
  have F_l_cell_at := fun_mk (st := s_l_cell_at) l_l_cell_at c_l_cell_at k_l_cell_at
  have bd_l_cell_at := F_l_cell_at.binds (ps := ["_law_script", "_law_k"]) fun _ _ _ _ _ _ us hl => match us, hl with | [_, _], _ => rfl
  have F_l_number := fun_mk (st := s_l_number) l_l_number c_l_number k_l_number
  have bd_l_number := F_l_number.binds (ps := ["_law_cell", "_law_limit"]) fun _ _ _ _ _ _ us hl => match us, hl with | [_, _], _ => rfl
  have F_l_deed := fun_mk (st := s_l_deed) l_l_deed c_l_deed k_l_deed
  have bd_l_deed := F_l_deed.binds (ps := ["_law_ladder", "_law_row", "_law_cell", "_law_limit"]) fun _ _ _ _ _ _ us hl => match us, hl with | [_, _, _, _], _ => rfl
  have F_l_told := fun_mk (st := s_l_told) l_l_told c_l_told k_l_told
  have bd_l_told := F_l_told.binds (ps := ["_law_ladder", "_law_spot"]) fun _ _ _ _ _ _ us hl => match us, hl with | [_, _], _ => rfl
  have F_l_made := fun_mk (st := s_l_made) l_l_made c_l_made k_l_made
  have bd_l_made := F_l_made.binds (ps := ["_law_width", "_law_high", "_law_row"]) fun _ _ _ _ _ _ us hl => match us, hl with | [_, _, _], _ => rfl
  have F_l_refused := fun_mk (st := s_l_refused) l_l_refused c_l_refused k_l_refused
  have bd_l_refused := F_l_refused.binds (ps := ["_law_ladder", "_law_other"]) fun _ _ _ _ _ _ us hl => match us, hl with | [_, _], _ => rfl
  have F_l_refused_by_any := fun_mk (st := s_l_refused_by_any) l_l_refused_by_any c_l_refused_by_any k_l_refused_by_any
  have bd_l_refused_by_any := F_l_refused_by_any.binds (ps := ["_law_ladder", "_law_number_here"]) fun _ _ _ _ _ _ us hl => match us, hl with | [_, _], _ => rfl
  have F_l_half := fun_mk (st := s_l_half) l_l_half c_l_half k_l_half
  have bd_l_half := F_l_half.binds (ps := ["_law_ladder", "_law_row", "_law_spot"]) fun _ _ _ _ _ _ us hl => match us, hl with | [_, _, _], _ => rfl
  have F_l_goes_on := fun_mk (st := s_l_goes_on) l_l_goes_on c_l_goes_on k_l_goes_on
  have bd_l_goes_on := F_l_goes_on.binds (ps := ["_law_ladder", "_law_part", "_law_row", "_law_rest", "_law_spot"]) fun _ _ _ _ _ _ us hl => match us, hl with | [_, _, _, _, _], _ => rfl
  have F_l_ends := fun_mk (st := s_l_ends) l_l_ends c_l_ends k_l_ends
  have bd_l_ends := F_l_ends.binds (ps := ["_law_ladder", "_law_gone"]) fun _ _ _ _ _ _ us hl => match us, hl with | [_, _], _ => rfl
  have F_l_again := fun_mk (st := s_l_again) l_l_again c_l_again k_l_again
  have bd_l_again := F_l_again.binds (ps := ["_law_ladder", "_law_row", "_law_spot"]) fun _ _ _ _ _ _ us hl => match us, hl with | [_, _, _], _ => rfl
  have F_l_woven := fun_mk (st := s_l_woven) l_l_woven c_l_woven k_l_woven
  have bd_l_woven := F_l_woven.binds (ps := ["_law_row", "_law_whole", "_law_size", "_law_spot"]) fun _ _ _ _ _ _ us hl => match us, hl with | [_, _, _, _], _ => rfl
  have F_l_is_there := fun_mk (st := s_l_is_there) l_l_is_there c_l_is_there k_l_is_there
  have bd_l_is_there := F_l_is_there.binds (ps := ["_law_ladder", "_law_number_here"]) fun _ _ _ _ _ _ us hl => match us, hl with | [_, _], _ => rfl
  have F_l_by_turns := fun_mk (st := s_l_by_turns) l_l_by_turns c_l_by_turns k_l_by_turns
  have bd_l_by_turns := F_l_by_turns.binds (ps := ["_law_ladder", "_law_row", "_law_whole", "_law_spot"]) fun _ _ _ _ _ _ us hl => match us, hl with | [_, _, _, _], _ => rfl
  have F_l_mated := fun_mk (st := s_l_mated) l_l_mated c_l_mated k_l_mated
  have bd_l_mated := F_l_mated.binds (ps := ["_law_other", "_law_own"]) fun _ _ _ _ _ _ us hl => match us, hl with | [_, _], _ => rfl
  have F_l_cut := fun_mk (st := s_l_cut) l_l_cut c_l_cut k_l_cut
  have bd_l_cut := F_l_cut.binds (ps := ["_law_ladder", "_law_row", "_law_at", "_law_spot"]) fun _ _ _ _ _ _ us hl => match us, hl with | [_, _, _, _], _ => rfl
  have F_law := fun_mk (st := s_law) l_law c_law k_law
  have T : Txt K mg := { f_power := _, fd_power := _, F_power := F_power, bd_power := bd_power, g_power := PySem.W.mg_of X G a_power, f_block := _, fd_block := _, F_block := F_block, bd_block := bd_block, g_block := PySem.W.mg_of X G a_block, f_thinned := _, fd_thinned := _, F_thinned := F_thinned, bd_thinned := bd_thinned, g_thinned := PySem.W.mg_of X G a_thinned, f_tall := _, fd_tall := _, F_tall := F_tall, bd_tall := bd_tall, g_tall := PySem.W.mg_of X G a_tall, f_ladder_init := _, fd_ladder_init := _, F_ladder_init := F_ladder_init, bd_ladder_init := bd_ladder_init, f_ladder_put := _, fd_ladder_put := _, F_ladder_put := F_ladder_put, bd_ladder_put := bd_ladder_put, f_ladder_take := _, fd_ladder_take := _, F_ladder_take := F_ladder_take, bd_ladder_take := bd_ladder_take, f_ladder_has := _, fd_ladder_has := _, F_ladder_has := F_ladder_has, bd_ladder_has := bd_ladder_has, f_ladder_row := _, fd_ladder_row := _, F_ladder_row := F_ladder_row, bd_ladder_row := bd_ladder_row, f_ladder_level := _, fd_ladder_level := _, F_ladder_level := F_ladder_level, bd_ladder_level := bd_ladder_level, f_ladder_ahead := _, fd_ladder_ahead := _, F_ladder_ahead := F_ladder_ahead, bd_ladder_ahead := bd_ladder_ahead, f_ladder_trail := _, fd_ladder_trail := _, F_ladder_trail := F_ladder_trail, bd_ladder_trail := bd_ladder_trail, f_ladder_below := _, fd_ladder_below := _, F_ladder_below := F_ladder_below, bd_ladder_below := bd_ladder_below, f_ladder_above := _, fd_ladder_above := _, F_ladder_above := F_ladder_above, bd_ladder_above := bd_ladder_above, f_ladder_place := _, fd_ladder_place := _, F_ladder_place := F_ladder_place, bd_ladder_place := bd_ladder_place, f_ladder_at := _, fd_ladder_at := _, F_ladder_at := F_ladder_at, bd_ladder_at := bd_ladder_at, f_ladder_way := _, fd_ladder_way := _, F_ladder_way := F_ladder_way, bd_ladder_way := bd_ladder_way, f_ladder_stretch := _, fd_ladder_stretch := _, F_ladder_stretch := F_ladder_stretch, bd_ladder_stretch := bd_ladder_stretch, f_ladder_counted := _, fd_ladder_counted := _, F_ladder_counted := F_ladder_counted, bd_ladder_counted := bd_ladder_counted, f_ladder_check_number := _, fd_ladder_check_number := _, F_ladder_check_number := F_ladder_check_number, bd_ladder_check_number := bd_ladder_check_number, f_ladder_check_end := _, fd_ladder_check_end := _, F_ladder_check_end := F_ladder_check_end, bd_ladder_check_end := bd_ladder_check_end, f_ladder_check_level := _, fd_ladder_check_level := _, F_ladder_check_level := F_ladder_check_level, bd_ladder_check_level := bd_ladder_check_level, f_ladder_check_place := _, fd_ladder_check_place := _, F_ladder_check_place := F_ladder_check_place, bd_ladder_check_place := bd_ladder_check_place, f_ladder_spot := _, fd_ladder_spot := _, F_ladder_spot := F_ladder_spot, bd_ladder_spot := bd_ladder_spot, f_ladder_at_or_none := _, fd_ladder_at_or_none := _, F_ladder_at_or_none := F_ladder_at_or_none, bd_ladder_at_or_none := bd_ladder_at_or_none, f_ladder_before := _, fd_ladder_before := _, F_ladder_before := F_ladder_before, bd_ladder_before := bd_ladder_before, f_ladder_begin := _, fd_ladder_begin := _, F_ladder_begin := F_ladder_begin, bd_ladder_begin := bd_ladder_begin, f_ladder_reach := _, fd_ladder_reach := _, F_ladder_reach := F_ladder_reach, bd_ladder_reach := bd_ladder_reach, f_ladder_heirs := _, fd_ladder_heirs := _, F_ladder_heirs := F_ladder_heirs, bd_ladder_heirs := bd_ladder_heirs, f_ladder_walk := _, fd_ladder_walk := _, F_ladder_walk := F_ladder_walk, bd_ladder_walk := bd_ladder_walk, f_cut := _, fd_cut := _, F_cut := F_cut, bd_cut := bd_cut, g_cut := PySem.W.mg_of X G a_cut, f_poured := _, fd_poured := _, F_poured := F_poured, bd_poured := bd_poured, g_poured := PySem.W.mg_of X G a_poured, f_l_cell_at := _, fd_l_cell_at := _, F_l_cell_at := F_l_cell_at, bd_l_cell_at := bd_l_cell_at, g_l_cell_at := PySem.W.mg_of X G a_l_cell_at, f_l_number := _, fd_l_number := _, F_l_number := F_l_number, bd_l_number := bd_l_number, g_l_number := PySem.W.mg_of X G a_l_number, f_l_deed := _, fd_l_deed := _, F_l_deed := F_l_deed, bd_l_deed := bd_l_deed, g_l_deed := PySem.W.mg_of X G a_l_deed, f_l_told := _, fd_l_told := _, F_l_told := F_l_told, bd_l_told := bd_l_told, g_l_told := PySem.W.mg_of X G a_l_told, f_l_made := _, fd_l_made := _, F_l_made := F_l_made, bd_l_made := bd_l_made, g_l_made := PySem.W.mg_of X G a_l_made, f_l_refused := _, fd_l_refused := _, F_l_refused := F_l_refused, bd_l_refused := bd_l_refused, g_l_refused := PySem.W.mg_of X G a_l_refused, f_l_refused_by_any := _, fd_l_refused_by_any := _, F_l_refused_by_any := F_l_refused_by_any, bd_l_refused_by_any := bd_l_refused_by_any, g_l_refused_by_any := PySem.W.mg_of X G a_l_refused_by_any, f_l_half := _, fd_l_half := _, F_l_half := F_l_half, bd_l_half := bd_l_half, g_l_half := PySem.W.mg_of X G a_l_half, f_l_goes_on := _, fd_l_goes_on := _, F_l_goes_on := F_l_goes_on, bd_l_goes_on := bd_l_goes_on, g_l_goes_on := PySem.W.mg_of X G a_l_goes_on, f_l_ends := _, fd_l_ends := _, F_l_ends := F_l_ends, bd_l_ends := bd_l_ends, g_l_ends := PySem.W.mg_of X G a_l_ends, f_l_again := _, fd_l_again := _, F_l_again := F_l_again, bd_l_again := bd_l_again, g_l_again := PySem.W.mg_of X G a_l_again, f_l_woven := _, fd_l_woven := _, F_l_woven := F_l_woven, bd_l_woven := bd_l_woven, g_l_woven := PySem.W.mg_of X G a_l_woven, f_l_is_there := _, fd_l_is_there := _, F_l_is_there := F_l_is_there, bd_l_is_there := bd_l_is_there, g_l_is_there := PySem.W.mg_of X G a_l_is_there, f_l_by_turns := _, fd_l_by_turns := _, F_l_by_turns := F_l_by_turns, bd_l_by_turns := bd_l_by_turns, g_l_by_turns := PySem.W.mg_of X G a_l_by_turns, f_l_mated := _, fd_l_mated := _, F_l_mated := F_l_mated, bd_l_mated := bd_l_mated, g_l_mated := PySem.W.mg_of X G a_l_mated, f_l_cut := _, fd_l_cut := _, F_l_cut := F_l_cut, bd_l_cut := bd_l_cut, g_l_cut := PySem.W.mg_of X G a_l_cut, b_ValueError := PySem.W.mg_none_of X G z_ValueError, b_all := PySem.W.mg_none_of X G z_all, b_enumerate := PySem.W.mg_none_of X G z_enumerate, b_int := PySem.W.mg_none_of X G z_int, b_isinstance := PySem.W.mg_none_of X G z_isinstance, b_len := PySem.W.mg_none_of X G z_len, b_list := PySem.W.mg_none_of X G z_list, b_min := PySem.W.mg_none_of X G z_min, b_range := PySem.W.mg_none_of X G z_range, b_reversed := PySem.W.mg_none_of X G z_reversed, b_sorted := PySem.W.mg_none_of X G z_sorted, b_tuple := PySem.W.mg_none_of X G z_tuple, c_Ladder := _, x_Ladder := PySem.W.mg_of X G aC_Ladder, c_LadderError := _, x_LadderError := PySem.W.mg_of X G aC_LadderError, c_BadSize := _, x_BadSize := PySem.W.mg_of X G aC_BadSize, c_OutOfRange := _, x_OutOfRange := PySem.W.mg_of X G aC_OutOfRange, c_Present := _, x_Present := PySem.W.mg_of X G aC_Present, c_Missing := _, x_Missing := PySem.W.mg_of X G aC_Missing, c_NoLevel := _, x_NoLevel := PySem.W.mg_of X G aC_NoLevel, c_NoPlace := _, x_NoPlace := PySem.W.mg_of X G aC_NoPlace, c_OtherSize := _, x_OtherSize := PySem.W.mg_of X G aC_OtherSize, cl_Ladder := ⟨pg_Ladder, hd_Ladder, po_Ladder, sa_Ladder⟩, mk_Ladder := ⟨ma_Ladder, a_ladder_init, i_ladder_init, kc_Ladder⟩, m_ladder_put := ⟨a_ladder_put, i_ladder_put, k_ladder_put⟩, m_ladder_take := ⟨a_ladder_take, i_ladder_take, k_ladder_take⟩, m_ladder_has := ⟨a_ladder_has, i_ladder_has, k_ladder_has⟩, m_ladder_row := ⟨a_ladder_row, i_ladder_row, k_ladder_row⟩, m_ladder_level := ⟨a_ladder_level, i_ladder_level, k_ladder_level⟩, m_ladder_ahead := ⟨a_ladder_ahead, i_ladder_ahead, k_ladder_ahead⟩, m_ladder_trail := ⟨a_ladder_trail, i_ladder_trail, k_ladder_trail⟩, m_ladder_below := ⟨a_ladder_below, i_ladder_below, k_ladder_below⟩, m_ladder_above := ⟨a_ladder_above, i_ladder_above, k_ladder_above⟩, m_ladder_place := ⟨a_ladder_place, i_ladder_place, k_ladder_place⟩, m_ladder_at := ⟨a_ladder_at, i_ladder_at, k_ladder_at⟩, m_ladder_way := ⟨a_ladder_way, i_ladder_way, k_ladder_way⟩, m_ladder_stretch := ⟨a_ladder_stretch, i_ladder_stretch, k_ladder_stretch⟩, m_ladder_counted := ⟨a_ladder_counted, i_ladder_counted, k_ladder_counted⟩, m_ladder_check_number := ⟨a_ladder_check_number, i_ladder_check_number, k_ladder_check_number⟩, m_ladder_check_end := ⟨a_ladder_check_end, i_ladder_check_end, k_ladder_check_end⟩, m_ladder_check_level := ⟨a_ladder_check_level, i_ladder_check_level, k_ladder_check_level⟩, m_ladder_check_place := ⟨a_ladder_check_place, i_ladder_check_place, k_ladder_check_place⟩, m_ladder_spot := ⟨a_ladder_spot, i_ladder_spot, k_ladder_spot⟩, m_ladder_at_or_none := ⟨a_ladder_at_or_none, i_ladder_at_or_none, k_ladder_at_or_none⟩, m_ladder_before := ⟨a_ladder_before, i_ladder_before, k_ladder_before⟩, m_ladder_begin := ⟨a_ladder_begin, i_ladder_begin, k_ladder_begin⟩, m_ladder_reach := ⟨a_ladder_reach, i_ladder_reach, k_ladder_reach⟩, m_ladder_heirs := ⟨a_ladder_heirs, i_ladder_heirs, k_ladder_heirs⟩, m_ladder_walk := ⟨a_ladder_walk, i_ladder_walk, k_ladder_walk⟩, n_Ladder_width := n_Ladder_width, n_Ladder_high := n_Ladder_high, n_Ladder_limit := n_Ladder_limit, n_Ladder_many := n_Ladder_many, n_Ladder__row := n_Ladder__row, xp_BadSize := xp_BadSize, kp_BadSize := kp_BadSize, bp_BadSize := bp_BadSize, tp_BadSize := tp_BadSize, xp_OutOfRange := xp_OutOfRange, kp_OutOfRange := kp_OutOfRange, bp_OutOfRange := bp_OutOfRange, tp_OutOfRange := tp_OutOfRange, xp_Present := xp_Present, kp_Present := kp_Present, bp_Present := bp_Present, tp_Present := tp_Present, xp_Missing := xp_Missing, kp_Missing := kp_Missing, bp_Missing := bp_Missing, tp_Missing := tp_Missing, xp_NoLevel := xp_NoLevel, kp_NoLevel := kp_NoLevel, bp_NoLevel := bp_NoLevel, tp_NoLevel := tp_NoLevel, xp_NoPlace := xp_NoPlace, kp_NoPlace := kp_NoPlace, bp_NoPlace := bp_NoPlace, tp_NoPlace := tp_NoPlace, xp_OtherSize := xp_OtherSize, kp_OtherSize := kp_OtherSize, bp_OtherSize := bp_OtherSize, tp_OtherSize := tp_OtherSize, exm_BadSize_OtherSize := exm_BadSize_OtherSize, exm_BadSize_Present := exm_BadSize_Present, exm_BadSize_OutOfRange := exm_BadSize_OutOfRange, exm_BadSize_LadderError := exm_BadSize_LadderError, exm_BadSize_NoPlace := exm_BadSize_NoPlace, exm_BadSize_Missing := exm_BadSize_Missing, kit_BadSize_ValueError := kit_BadSize_ValueError, kit_BadSize_LadderError := kit_BadSize_LadderError, ec_BadSize := ⟨e1_BadSize, e2_BadSize, e3_BadSize, e4_BadSize, e5_BadSize, e6, e7, e8_BadSize⟩, exm_OutOfRange_OtherSize := exm_OutOfRange_OtherSize, exm_OutOfRange_Present := exm_OutOfRange_Present, exm_OutOfRange_OutOfRange := exm_OutOfRange_OutOfRange, exm_OutOfRange_LadderError := exm_OutOfRange_LadderError, exm_OutOfRange_NoPlace := exm_OutOfRange_NoPlace, exm_OutOfRange_Missing := exm_OutOfRange_Missing, kit_OutOfRange_ValueError := kit_OutOfRange_ValueError, kit_OutOfRange_LadderError := kit_OutOfRange_LadderError, ec_OutOfRange := ⟨e1_OutOfRange, e2_OutOfRange, e3_OutOfRange, e4_OutOfRange, e5_OutOfRange, e6, e7, e8_OutOfRange⟩, exm_Present_OtherSize := exm_Present_OtherSize, exm_Present_Present := exm_Present_Present, exm_Present_OutOfRange := exm_Present_OutOfRange, exm_Present_LadderError := exm_Present_LadderError, exm_Present_NoPlace := exm_Present_NoPlace, exm_Present_Missing := exm_Present_Missing, kit_Present_ValueError := kit_Present_ValueError, kit_Present_LadderError := kit_Present_LadderError, ec_Present := ⟨e1_Present, e2_Present, e3_Present, e4_Present, e5_Present, e6, e7, e8_Present⟩, exm_Missing_OtherSize := exm_Missing_OtherSize, exm_Missing_Present := exm_Missing_Present, exm_Missing_OutOfRange := exm_Missing_OutOfRange, exm_Missing_LadderError := exm_Missing_LadderError, exm_Missing_NoPlace := exm_Missing_NoPlace, exm_Missing_Missing := exm_Missing_Missing, kit_Missing_ValueError := kit_Missing_ValueError, kit_Missing_LadderError := kit_Missing_LadderError, ec_Missing := ⟨e1_Missing, e2_Missing, e3_Missing, e4_Missing, e5_Missing, e6, e7, e8_Missing⟩, exm_NoLevel_OtherSize := exm_NoLevel_OtherSize, exm_NoLevel_Present := exm_NoLevel_Present, exm_NoLevel_OutOfRange := exm_NoLevel_OutOfRange, exm_NoLevel_LadderError := exm_NoLevel_LadderError, exm_NoLevel_NoPlace := exm_NoLevel_NoPlace, exm_NoLevel_Missing := exm_NoLevel_Missing, kit_NoLevel_ValueError := kit_NoLevel_ValueError, kit_NoLevel_LadderError := kit_NoLevel_LadderError, ec_NoLevel := ⟨e1_NoLevel, e2_NoLevel, e3_NoLevel, e4_NoLevel, e5_NoLevel, e6, e7, e8_NoLevel⟩, exm_NoPlace_OtherSize := exm_NoPlace_OtherSize, exm_NoPlace_Present := exm_NoPlace_Present, exm_NoPlace_OutOfRange := exm_NoPlace_OutOfRange, exm_NoPlace_LadderError := exm_NoPlace_LadderError, exm_NoPlace_NoPlace := exm_NoPlace_NoPlace, exm_NoPlace_Missing := exm_NoPlace_Missing, kit_NoPlace_ValueError := kit_NoPlace_ValueError, kit_NoPlace_LadderError := kit_NoPlace_LadderError, ec_NoPlace := ⟨e1_NoPlace, e2_NoPlace, e3_NoPlace, e4_NoPlace, e5_NoPlace, e6, e7, e8_NoPlace⟩, exm_OtherSize_OtherSize := exm_OtherSize_OtherSize, exm_OtherSize_Present := exm_OtherSize_Present, exm_OtherSize_OutOfRange := exm_OtherSize_OutOfRange, exm_OtherSize_LadderError := exm_OtherSize_LadderError, exm_OtherSize_NoPlace := exm_OtherSize_NoPlace, exm_OtherSize_Missing := exm_OtherSize_Missing, kit_OtherSize_ValueError := kit_OtherSize_ValueError, kit_OtherSize_LadderError := kit_OtherSize_LadderError, ec_OtherSize := ⟨e1_OtherSize, e2_OtherSize, e3_OtherSize, e4_OtherSize, e5_OtherSize, e6, e7, e8_OtherSize⟩ }
  exact ⟨PySem.W.fnOf "law" "law" (defArgs s_law) (defBody s_law) (defScope s_law) .none kV_law dc_law pm_law an_law cd_law ct_law, fun s v => .of_eq rfl, fun base _ _ => ok_law F_law T (theRep T) (theProg T)⟩
end Sk
open PySem PySem.W PyProof.Rows
set_option maxRecDepth 100000 in
set_option maxHeartbeats 0 in
theorem PySem.Challenge.cw_skipladder_k14_whole_parts_holds : PySem.Challenge.rw_skipladder_k14_whole_parts.Holds := by
  w_on; o_law; k_head; (case hw => w_witness2)
  k_fill
  refine L2.walk_of (l := PySem.Challenge.rw_skipladder_k14_whole_parts) (n := 63) (k := 26) (x := "_law_script") (CX := fun _ => L2.CX0) (sp := fun w => Sk.sp_law _) rfl (by decide) rfl ⟨rfl, by decide, by decide⟩ (fun w h Y => PySem.W.kIn_of Y) ?F (fun _ _ a ns hl _ hS => ⟨a, ns, rfl, hS, hl, fun _ => rfl⟩) (fun _ _ _ _ _ h => h)
  case F =>
    intro w mg fa h KX G hmg
    refine' Sk.all_mk KX G hmg ?aC_Ladder ?aC_LadderError ?aC_BadSize ?aC_OutOfRange ?aC_Present ?aC_Missing ?aC_NoLevel ?aC_NoPlace ?aC_OtherSize ?a_power ?l_power ?c_power ?k_power ?a_block ?l_block ?c_block ?k_block ?a_thinned ?l_thinned ?c_thinned ?k_thinned ?a_tall ?l_tall ?c_tall ?k_tall ?a_ladder_init ?l_ladder_init ?c_ladder_init ?k_ladder_init ?a_ladder_put ?l_ladder_put ?c_ladder_put ?k_ladder_put ?a_ladder_take ?l_ladder_take ?c_ladder_take ?k_ladder_take ?a_ladder_has ?l_ladder_has ?c_ladder_has ?k_ladder_has ?a_ladder_row ?l_ladder_row ?c_ladder_row ?k_ladder_row ?a_ladder_level ?l_ladder_level ?c_ladder_level ?k_ladder_level ?a_ladder_ahead ?l_ladder_ahead ?c_ladder_ahead ?k_ladder_ahead ?a_ladder_trail ?l_ladder_trail ?c_ladder_trail ?k_ladder_trail ?a_ladder_below ?l_ladder_below ?c_ladder_below ?k_ladder_below ?a_ladder_above ?l_ladder_above ?c_ladder_above ?k_ladder_above ?a_ladder_place ?l_ladder_place ?c_ladder_place ?k_ladder_place ?a_ladder_at ?l_ladder_at ?c_ladder_at ?k_ladder_at ?a_ladder_way ?l_ladder_way ?c_ladder_way ?k_ladder_way ?a_ladder_stretch ?l_ladder_stretch ?c_ladder_stretch ?k_ladder_stretch ?a_ladder_counted ?l_ladder_counted ?c_ladder_counted ?k_ladder_counted ?a_ladder_check_number ?l_ladder_check_number ?c_ladder_check_number ?k_ladder_check_number ?a_ladder_check_end ?l_ladder_check_end ?c_ladder_check_end ?k_ladder_check_end ?a_ladder_check_level ?l_ladder_check_level ?c_ladder_check_level ?k_ladder_check_level ?a_ladder_check_place ?l_ladder_check_place ?c_ladder_check_place ?k_ladder_check_place ?a_ladder_spot ?l_ladder_spot ?c_ladder_spot ?k_ladder_spot ?a_ladder_at_or_none ?l_ladder_at_or_none ?c_ladder_at_or_none ?k_ladder_at_or_none ?a_ladder_before ?l_ladder_before ?c_ladder_before ?k_ladder_before ?a_ladder_begin ?l_ladder_begin ?c_ladder_begin ?k_ladder_begin ?a_ladder_reach ?l_ladder_reach ?c_ladder_reach ?k_ladder_reach ?a_ladder_heirs ?l_ladder_heirs ?c_ladder_heirs ?k_ladder_heirs ?a_ladder_walk ?l_ladder_walk ?c_ladder_walk ?k_ladder_walk ?a_cut ?l_cut ?c_cut ?k_cut ?a_poured ?l_poured ?c_poured ?k_poured ?a_l_cell_at ?l_l_cell_at ?c_l_cell_at ?k_l_cell_at ?a_l_number ?l_l_number ?c_l_number ?k_l_number ?a_l_deed ?l_l_deed ?c_l_deed ?k_l_deed ?a_l_told ?l_l_told ?c_l_told ?k_l_told ?a_l_made ?l_l_made ?c_l_made ?k_l_made ?a_l_refused ?l_l_refused ?c_l_refused ?k_l_refused ?a_l_refused_by_any ?l_l_refused_by_any ?c_l_refused_by_any ?k_l_refused_by_any ?a_l_half ?l_l_half ?c_l_half ?k_l_half ?a_l_goes_on ?l_l_goes_on ?c_l_goes_on ?k_l_goes_on ?a_l_ends ?l_l_ends ?c_l_ends ?k_l_ends ?a_l_again ?l_l_again ?c_l_again ?k_l_again ?a_l_woven ?l_l_woven ?c_l_woven ?k_l_woven ?a_l_is_there ?l_l_is_there ?c_l_is_there ?k_l_is_there ?a_l_by_turns ?l_l_by_turns ?c_l_by_turns ?k_l_by_turns ?a_l_mated ?l_l_mated ?c_l_mated ?k_l_mated ?a_l_cut ?l_l_cut ?c_l_cut ?k_l_cut ?a_law ?l_law ?c_law ?k_law ?z_ValueError ?z_all ?z_enumerate ?z_int ?z_isinstance ?z_len ?z_list ?z_min ?z_range ?z_reversed ?z_sorted ?z_tuple ?pg_Ladder ?hd_Ladder ?po_Ladder ?sa_Ladder ?ma_Ladder ?kc_Ladder ?i_ladder_init ?i_ladder_put ?i_ladder_take ?i_ladder_has ?i_ladder_row ?i_ladder_level ?i_ladder_ahead ?i_ladder_trail ?i_ladder_below ?i_ladder_above ?i_ladder_place ?i_ladder_at ?i_ladder_way ?i_ladder_stretch ?i_ladder_counted ?i_ladder_check_number ?i_ladder_check_end ?i_ladder_check_level ?i_ladder_check_place ?i_ladder_spot ?i_ladder_at_or_none ?i_ladder_before ?i_ladder_begin ?i_ladder_reach ?i_ladder_heirs ?i_ladder_walk ?n_Ladder_width ?n_Ladder_high ?n_Ladder_limit ?n_Ladder_many ?n_Ladder__row ?xp_BadSize ?kp_BadSize ?bp_BadSize ?tp_BadSize ?xp_OutOfRange ?kp_OutOfRange ?bp_OutOfRange ?tp_OutOfRange ?xp_Present ?kp_Present ?bp_Present ?tp_Present ?xp_Missing ?kp_Missing ?bp_Missing ?tp_Missing ?xp_NoLevel ?kp_NoLevel ?bp_NoLevel ?tp_NoLevel ?xp_NoPlace ?kp_NoPlace ?bp_NoPlace ?tp_NoPlace ?xp_OtherSize ?kp_OtherSize ?bp_OtherSize ?tp_OtherSize ?exm_BadSize_OtherSize ?exm_BadSize_Present ?exm_BadSize_OutOfRange ?exm_BadSize_LadderError ?exm_BadSize_NoPlace ?exm_BadSize_Missing ?kit_BadSize_ValueError ?kit_BadSize_LadderError ?e1_BadSize ?e2_BadSize ?e3_BadSize ?e4_BadSize ?e5_BadSize ?e8_BadSize ?exm_OutOfRange_OtherSize ?exm_OutOfRange_Present ?exm_OutOfRange_OutOfRange ?exm_OutOfRange_LadderError ?exm_OutOfRange_NoPlace ?exm_OutOfRange_Missing ?kit_OutOfRange_ValueError ?kit_OutOfRange_LadderError ?e1_OutOfRange ?e2_OutOfRange ?e3_OutOfRange ?e4_OutOfRange ?e5_OutOfRange ?e8_OutOfRange ?exm_Present_OtherSize ?exm_Present_Present ?exm_Present_OutOfRange ?exm_Present_LadderError ?exm_Present_NoPlace ?exm_Present_Missing ?kit_Present_ValueError ?kit_Present_LadderError ?e1_Present ?e2_Present ?e3_Present ?e4_Present ?e5_Present ?e8_Present ?exm_Missing_OtherSize ?exm_Missing_Present ?exm_Missing_OutOfRange ?exm_Missing_LadderError ?exm_Missing_NoPlace ?exm_Missing_Missing ?kit_Missing_ValueError ?kit_Missing_LadderError ?e1_Missing ?e2_Missing ?e3_Missing ?e4_Missing ?e5_Missing ?e8_Missing ?exm_NoLevel_OtherSize ?exm_NoLevel_Present ?exm_NoLevel_OutOfRange ?exm_NoLevel_LadderError ?exm_NoLevel_NoPlace ?exm_NoLevel_Missing ?kit_NoLevel_ValueError ?kit_NoLevel_LadderError ?e1_NoLevel ?e2_NoLevel ?e3_NoLevel ?e4_NoLevel ?e5_NoLevel ?e8_NoLevel ?exm_NoPlace_OtherSize ?exm_NoPlace_Present ?exm_NoPlace_OutOfRange ?exm_NoPlace_LadderError ?exm_NoPlace_NoPlace ?exm_NoPlace_Missing ?kit_NoPlace_ValueError ?kit_NoPlace_LadderError ?e1_NoPlace ?e2_NoPlace ?e3_NoPlace ?e4_NoPlace ?e5_NoPlace ?e8_NoPlace ?exm_OtherSize_OtherSize ?exm_OtherSize_Present ?exm_OtherSize_OutOfRange ?exm_OtherSize_LadderError ?exm_OtherSize_NoPlace ?exm_OtherSize_Missing ?kit_OtherSize_ValueError ?kit_OtherSize_LadderError ?e1_OtherSize ?e2_OtherSize ?e3_OtherSize ?e4_OtherSize ?e5_OtherSize ?e8_OtherSize ?e6 ?e7
    (case aC_Ladder => k_is)
    (case aC_LadderError => k_is)
    (case aC_BadSize => k_is)
    (case aC_OutOfRange => k_is)
    (case aC_Present => k_is)
    (case aC_Missing => k_is)
    (case aC_NoLevel => k_is)
    (case aC_NoPlace => k_is)
    (case aC_OtherSize => k_is)
    (case a_power => k_is)
    (case l_power => k_is)
    (case c_power => k_is)
    (case k_power => k_is)
    (case a_block => k_is)
    (case l_block => k_is)
    (case c_block => k_is)
    (case k_block => k_is)
    (case a_thinned => k_is)
    (case l_thinned => k_is)
    (case c_thinned => k_is)
    (case k_thinned => k_is)
    (case a_tall => k_is)
    (case l_tall => k_is)
    (case c_tall => k_is)
    (case k_tall => k_is)
    (case a_ladder_init => k_is)
    (case l_ladder_init => k_is)
    (case c_ladder_init => k_is)
    (case k_ladder_init => k_is)
    (case a_ladder_put => k_is)
    (case l_ladder_put => k_is)
    (case c_ladder_put => k_is)
    (case k_ladder_put => k_is)
    (case a_ladder_take => k_is)
    (case l_ladder_take => k_is)
    (case c_ladder_take => k_is)
    (case k_ladder_take => k_is)
    (case a_ladder_has => k_is)
    (case l_ladder_has => k_is)
    (case c_ladder_has => k_is)
    (case k_ladder_has => k_is)
    (case a_ladder_row => k_is)
    (case l_ladder_row => k_is)
    (case c_ladder_row => k_is)
    (case k_ladder_row => k_is)
    (case a_ladder_level => k_is)
    (case l_ladder_level => k_is)
    (case c_ladder_level => k_is)
    (case k_ladder_level => k_is)
    (case a_ladder_ahead => k_is)
    (case l_ladder_ahead => k_is)
    (case c_ladder_ahead => k_is)
    (case k_ladder_ahead => k_is)
    (case a_ladder_trail => k_is)
    (case l_ladder_trail => k_is)
    (case c_ladder_trail => k_is)
    (case k_ladder_trail => k_is)
    (case a_ladder_below => k_is)
    (case l_ladder_below => k_is)
    (case c_ladder_below => k_is)
    (case k_ladder_below => k_is)
    (case a_ladder_above => k_is)
    (case l_ladder_above => k_is)
    (case c_ladder_above => k_is)
    (case k_ladder_above => k_is)
    (case a_ladder_place => k_is)
    (case l_ladder_place => k_is)
    (case c_ladder_place => k_is)
    (case k_ladder_place => k_is)
    (case a_ladder_at => k_is)
    (case l_ladder_at => k_is)
    (case c_ladder_at => k_is)
    (case k_ladder_at => k_is)
    (case a_ladder_way => k_is)
    (case l_ladder_way => k_is)
    (case c_ladder_way => k_is)
    (case k_ladder_way => k_is)
    (case a_ladder_stretch => k_is)
    (case l_ladder_stretch => k_is)
    (case c_ladder_stretch => k_is)
    (case k_ladder_stretch => k_is)
    (case a_ladder_counted => k_is)
    (case l_ladder_counted => k_is)
    (case c_ladder_counted => k_is)
    (case k_ladder_counted => k_is)
    (case a_ladder_check_number => k_is)
    (case l_ladder_check_number => k_is)
    (case c_ladder_check_number => k_is)
    (case k_ladder_check_number => k_is)
    (case a_ladder_check_end => k_is)
    (case l_ladder_check_end => k_is)
    (case c_ladder_check_end => k_is)
    (case k_ladder_check_end => k_is)
    (case a_ladder_check_level => k_is)
    (case l_ladder_check_level => k_is)
    (case c_ladder_check_level => k_is)
    (case k_ladder_check_level => k_is)
    (case a_ladder_check_place => k_is)
    (case l_ladder_check_place => k_is)
    (case c_ladder_check_place => k_is)
    (case k_ladder_check_place => k_is)
    (case a_ladder_spot => k_is)
    (case l_ladder_spot => k_is)
    (case c_ladder_spot => k_is)
    (case k_ladder_spot => k_is)
    (case a_ladder_at_or_none => k_is)
    (case l_ladder_at_or_none => k_is)
    (case c_ladder_at_or_none => k_is)
    (case k_ladder_at_or_none => k_is)
    (case a_ladder_before => k_is)
    (case l_ladder_before => k_is)
    (case c_ladder_before => k_is)
    (case k_ladder_before => k_is)
    (case a_ladder_begin => k_is)
    (case l_ladder_begin => k_is)
    (case c_ladder_begin => k_is)
    (case k_ladder_begin => k_is)
    (case a_ladder_reach => k_is)
    (case l_ladder_reach => k_is)
    (case c_ladder_reach => k_is)
    (case k_ladder_reach => k_is)
    (case a_ladder_heirs => k_is)
    (case l_ladder_heirs => k_is)
    (case c_ladder_heirs => k_is)
    (case k_ladder_heirs => k_is)
    (case a_ladder_walk => k_is)
    (case l_ladder_walk => k_is)
    (case c_ladder_walk => k_is)
    (case k_ladder_walk => k_is)
    (case a_cut => k_is)
    (case l_cut => k_is)
    (case c_cut => k_is)
    (case k_cut => k_is)
    (case a_poured => k_is)
    (case l_poured => k_is)
    (case c_poured => k_is)
    (case k_poured => k_is)
    (case a_l_cell_at => k_is)
    (case l_l_cell_at => k_is)
    (case c_l_cell_at => k_is)
    (case k_l_cell_at => k_is)
    (case a_l_number => k_is)
    (case l_l_number => k_is)
    (case c_l_number => k_is)
    (case k_l_number => k_is)
    (case a_l_deed => k_is)
    (case l_l_deed => k_is)
    (case c_l_deed => k_is)
    (case k_l_deed => k_is)
    (case a_l_told => k_is)
    (case l_l_told => k_is)
    (case c_l_told => k_is)
    (case k_l_told => k_is)
    (case a_l_made => k_is)
    (case l_l_made => k_is)
    (case c_l_made => k_is)
    (case k_l_made => k_is)
    (case a_l_refused => k_is)
    (case l_l_refused => k_is)
    (case c_l_refused => k_is)
    (case k_l_refused => k_is)
    (case a_l_refused_by_any => k_is)
    (case l_l_refused_by_any => k_is)
    (case c_l_refused_by_any => k_is)
    (case k_l_refused_by_any => k_is)
    (case a_l_half => k_is)
    (case l_l_half => k_is)
    (case c_l_half => k_is)
    (case k_l_half => k_is)
    (case a_l_goes_on => k_is)
    (case l_l_goes_on => k_is)
    (case c_l_goes_on => k_is)
    (case k_l_goes_on => k_is)
    (case a_l_ends => k_is)
    (case l_l_ends => k_is)
    (case c_l_ends => k_is)
    (case k_l_ends => k_is)
    (case a_l_again => k_is)
    (case l_l_again => k_is)
    (case c_l_again => k_is)
    (case k_l_again => k_is)
    (case a_l_woven => k_is)
    (case l_l_woven => k_is)
    (case c_l_woven => k_is)
    (case k_l_woven => k_is)
    (case a_l_is_there => k_is)
    (case l_l_is_there => k_is)
    (case c_l_is_there => k_is)
    (case k_l_is_there => k_is)
    (case a_l_by_turns => k_is)
    (case l_l_by_turns => k_is)
    (case c_l_by_turns => k_is)
    (case k_l_by_turns => k_is)
    (case a_l_mated => k_is)
    (case l_l_mated => k_is)
    (case c_l_mated => k_is)
    (case k_l_mated => k_is)
    (case a_l_cut => k_is)
    (case l_l_cut => k_is)
    (case c_l_cut => k_is)
    (case k_l_cut => k_is)
    (case a_law => k_is)
    (case l_law => k_is)
    (case c_law => k_is)
    (case k_law => k_is)
    (case z_ValueError => k_is)
    (case z_all => k_is)
    (case z_enumerate => k_is)
    (case z_int => k_is)
    (case z_isinstance => k_is)
    (case z_len => k_is)
    (case z_list => k_is)
    (case z_min => k_is)
    (case z_range => k_is)
    (case z_reversed => k_is)
    (case z_sorted => k_is)
    (case z_tuple => k_is)
    (case pg_Ladder => k_is)
    (case hd_Ladder => k_is)
    (case po_Ladder => k_is)
    (case sa_Ladder => k_is)
    (case ma_Ladder => k_is)
    (case kc_Ladder => k_is)
    (case i_ladder_init => k_is)
    (case i_ladder_put => k_is)
    (case i_ladder_take => k_is)
    (case i_ladder_has => k_is)
    (case i_ladder_row => k_is)
    (case i_ladder_level => k_is)
    (case i_ladder_ahead => k_is)
    (case i_ladder_trail => k_is)
    (case i_ladder_below => k_is)
    (case i_ladder_above => k_is)
    (case i_ladder_place => k_is)
    (case i_ladder_at => k_is)
    (case i_ladder_way => k_is)
    (case i_ladder_stretch => k_is)
    (case i_ladder_counted => k_is)
    (case i_ladder_check_number => k_is)
    (case i_ladder_check_end => k_is)
    (case i_ladder_check_level => k_is)
    (case i_ladder_check_place => k_is)
    (case i_ladder_spot => k_is)
    (case i_ladder_at_or_none => k_is)
    (case i_ladder_before => k_is)
    (case i_ladder_begin => k_is)
    (case i_ladder_reach => k_is)
    (case i_ladder_heirs => k_is)
    (case i_ladder_walk => k_is)
    (case n_Ladder_width => k_is)
    (case n_Ladder_high => k_is)
    (case n_Ladder_limit => k_is)
    (case n_Ladder_many => k_is)
    (case n_Ladder__row => k_is)
    (case xp_BadSize => k_exc)
    (case kp_BadSize => k_is)
    (case bp_BadSize => k_is)
    (case tp_BadSize => k_is)
    (case xp_OutOfRange => k_exc)
    (case kp_OutOfRange => k_is)
    (case bp_OutOfRange => k_is)
    (case tp_OutOfRange => k_is)
    (case xp_Present => k_exc)
    (case kp_Present => k_is)
    (case bp_Present => k_is)
    (case tp_Present => k_is)
    (case xp_Missing => k_exc)
    (case kp_Missing => k_is)
    (case bp_Missing => k_is)
    (case tp_Missing => k_is)
    (case xp_NoLevel => k_exc)
    (case kp_NoLevel => k_is)
    (case bp_NoLevel => k_is)
    (case tp_NoLevel => k_is)
    (case xp_NoPlace => k_exc)
    (case kp_NoPlace => k_is)
    (case bp_NoPlace => k_is)
    (case tp_NoPlace => k_is)
    (case xp_OtherSize => k_exc)
    (case kp_OtherSize => k_is)
    (case bp_OtherSize => k_is)
    (case tp_OtherSize => k_is)
    (case exm_BadSize_OtherSize => kts_exm)
    (case exm_BadSize_Present => kts_exm)
    (case exm_BadSize_OutOfRange => kts_exm)
    (case exm_BadSize_LadderError => kts_exm)
    (case exm_BadSize_NoPlace => kts_exm)
    (case exm_BadSize_Missing => kts_exm)
    (case kit_BadSize_ValueError => kit_is)
    (case kit_BadSize_LadderError => kit_is)
    (case e1_BadSize => k_is)
    (case e2_BadSize => k_is)
    (case e3_BadSize => k_is)
    (case e4_BadSize => k_is)
    (case e5_BadSize => k_is)
    (case e8_BadSize => k_is)
    (case exm_OutOfRange_OtherSize => kts_exm)
    (case exm_OutOfRange_Present => kts_exm)
    (case exm_OutOfRange_OutOfRange => kts_exm)
    (case exm_OutOfRange_LadderError => kts_exm)
    (case exm_OutOfRange_NoPlace => kts_exm)
    (case exm_OutOfRange_Missing => kts_exm)
    (case kit_OutOfRange_ValueError => kit_is)
    (case kit_OutOfRange_LadderError => kit_is)
    (case e1_OutOfRange => k_is)
    (case e2_OutOfRange => k_is)
    (case e3_OutOfRange => k_is)
    (case e4_OutOfRange => k_is)
    (case e5_OutOfRange => k_is)
    (case e8_OutOfRange => k_is)
    (case exm_Present_OtherSize => kts_exm)
    (case exm_Present_Present => kts_exm)
    (case exm_Present_OutOfRange => kts_exm)
    (case exm_Present_LadderError => kts_exm)
    (case exm_Present_NoPlace => kts_exm)
    (case exm_Present_Missing => kts_exm)
    (case kit_Present_ValueError => kit_is)
    (case kit_Present_LadderError => kit_is)
    (case e1_Present => k_is)
    (case e2_Present => k_is)
    (case e3_Present => k_is)
    (case e4_Present => k_is)
    (case e5_Present => k_is)
    (case e8_Present => k_is)
    (case exm_Missing_OtherSize => kts_exm)
    (case exm_Missing_Present => kts_exm)
    (case exm_Missing_OutOfRange => kts_exm)
    (case exm_Missing_LadderError => kts_exm)
    (case exm_Missing_NoPlace => kts_exm)
    (case exm_Missing_Missing => kts_exm)
    (case kit_Missing_ValueError => kit_is)
    (case kit_Missing_LadderError => kit_is)
    (case e1_Missing => k_is)
    (case e2_Missing => k_is)
    (case e3_Missing => k_is)
    (case e4_Missing => k_is)
    (case e5_Missing => k_is)
    (case e8_Missing => k_is)
    (case exm_NoLevel_OtherSize => kts_exm)
    (case exm_NoLevel_Present => kts_exm)
    (case exm_NoLevel_OutOfRange => kts_exm)
    (case exm_NoLevel_LadderError => kts_exm)
    (case exm_NoLevel_NoPlace => kts_exm)
    (case exm_NoLevel_Missing => kts_exm)
    (case kit_NoLevel_ValueError => kit_is)
    (case kit_NoLevel_LadderError => kit_is)
    (case e1_NoLevel => k_is)
    (case e2_NoLevel => k_is)
    (case e3_NoLevel => k_is)
    (case e4_NoLevel => k_is)
    (case e5_NoLevel => k_is)
    (case e8_NoLevel => k_is)
    (case exm_NoPlace_OtherSize => kts_exm)
    (case exm_NoPlace_Present => kts_exm)
    (case exm_NoPlace_OutOfRange => kts_exm)
    (case exm_NoPlace_LadderError => kts_exm)
    (case exm_NoPlace_NoPlace => kts_exm)
    (case exm_NoPlace_Missing => kts_exm)
    (case kit_NoPlace_ValueError => kit_is)
    (case kit_NoPlace_LadderError => kit_is)
    (case e1_NoPlace => k_is)
    (case e2_NoPlace => k_is)
    (case e3_NoPlace => k_is)
    (case e4_NoPlace => k_is)
    (case e5_NoPlace => k_is)
    (case e8_NoPlace => k_is)
    (case exm_OtherSize_OtherSize => kts_exm)
    (case exm_OtherSize_Present => kts_exm)
    (case exm_OtherSize_OutOfRange => kts_exm)
    (case exm_OtherSize_LadderError => kts_exm)
    (case exm_OtherSize_NoPlace => kts_exm)
    (case exm_OtherSize_Missing => kts_exm)
    (case kit_OtherSize_ValueError => kit_is)
    (case kit_OtherSize_LadderError => kit_is)
    (case e1_OtherSize => k_is)
    (case e2_OtherSize => k_is)
    (case e3_OtherSize => k_is)
    (case e4_OtherSize => k_is)
    (case e5_OtherSize => k_is)
    (case e8_OtherSize => k_is)
    (case e6 => k_is)
    (case e7 => k_is)

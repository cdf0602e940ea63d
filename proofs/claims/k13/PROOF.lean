import PyProof.Rows.All
import Wide.All
import OpenK.AllK
import Wide.FinOn
import HandS.ForMost
import HandS.More
import HandS.Wide
import HandS.Conv
import HandS.IsInst
import HandS.Evl
import HandS.ForExc
import HandS.TryOnly
import HandS.TryMany
import HandS.ExcIs
import HandS.SortInts
import HandS.SetFor
import HandS.More
import KE.RegKTryMore
import KE.RegKIsAll
import HandS.Dict
import PySem.Challenge.RW_skipladder_k13_whole_places
set_option Elab.async false
set_option linter.all false
set_option maxRecDepth 100000
set_option maxHeartbeats 4000000
namespace Sk
open PySem PySem.Spec PyProof.Rows L2
/-! ### xs[lo:hi:step] of a list -/
def stepV (xs : List V) (lo hi : Option Int) (st : Int) : List V := (sliceRange (sliceBounds lo hi (some st) xs.length).1 (sliceBounds lo hi (some st) xs.length).2.1 (sliceBounds lo hi (some st) xs.length).2.2).filterMap (xs[·]?)
theorem vals_pick {xs : List V} {us : List Value} (r : Vals xs us) : ∀ idx : List Nat, Vals (idx.filterMap (xs[·]?)) (idx.filterMap (us[·]?))
  | [] => .nil
  | i :: idx => by
    have ih := vals_pick r idx
    rw [List.filterMap_cons, List.filterMap_cons]
    have hl := r.length
    rcases Nat.lt_or_ge i xs.length with lt | ge
    · obtain ⟨u, hu, ru⟩ : ∃ u, us[i]? = some u ∧ RelV xs[i] u := by
        have key : ∀ (xs : List V) (us : List Value) (i : Nat) (h : i < xs.length), Vals xs us → ∃ u, us[i]? = some u ∧ RelV xs[i] u := by
          intro xs
          induction xs with
          | nil => intro us i h r; exact absurd h (Nat.not_lt_zero i)
          | cons x xs ih =>
            intro us i h r
            cases r with
            | cons r1 r2 =>
              cases i with
              | zero => exact ⟨_, rfl, r1⟩
              | succ i => exact ih _ i (Nat.lt_of_succ_lt_succ h) r2
        exact key xs us i lt r
      rw [List.getElem?_eq_getElem lt, hu]
      exact .cons ru ih
    · rw [List.getElem?_eq_none ge, List.getElem?_eq_none (by omega)]
      exact ih
theorem range_few (idx : List Nat) (xs : List V) : (idx.filterMap (xs[·]?)).length ≤ idx.length := List.length_filterMap_le _ _
def rSlS (K : PySem.W.Frag) (st : Int) : V → Option Int → Option Int → Hp → VK → Prop := fun x lo hi H Q => ∃ a xs, x = .ref a ∧ SqL K H a xs ∧ (stepV xs lo hi st).length ≤ sizeLine ∧ ∀ p, H p = none → Q (.ref p) (upd H p (.lst (stepV xs lo hi st)))
theorem pe_sliceS {X : Cx} {e es : Expr} {te : TE} {lo hi : Option Expr} {tl th : TO} {pos p2 : Pos} {st : Int} (h0 : st ≠ 0) (he : PE X e te) (hl : PO X lo tl) (hu : PO X hi th) (hs : PE X es (tC (.int st))) : PE X (.Subscript e (.Slice lo hi (some es) p2) pos) (tSl (rSlS X.K st) te tl th) := by
  refine ⟨fun pins s σ H Q I h => ?_⟩
  refine Subscript_ (thn (he.run pins s σ H _ I h) fun v s1 ⟨x, H1, I1, r1, q1⟩ => ?_)
  refine wpAny_Slice (thn (hl.run pins s1 σ H1 _ I1 q1) fun vl s2 ⟨l, H2, I2, pl, q2⟩ => thn (hu.run pins s2 σ H2 _ I2 q2) fun vu s3 ⟨u, H3, I3, pu, q3⟩ => ?_)
  rw [evalPart_some]
  refine thn (hs.run pins s3 σ H3 (fun x H' => x = .int st ∧ H' = H3) I3 ⟨rfl, rfl⟩) fun vs s4 ⟨x4, H4, I4, r4, e4⟩ => ?_
  obtain ⟨rfl, rfl⟩ := e4
  obtain ⟨t, rfl⟩ := r4
  obtain ⟨a, xs, rfl, hx, sz, q⟩ := q3
  cases r1
  have I5 : Inv X pins σ H4 { s4 with heap := s4.heap.push { cls := .type "slice", data := .fields #[vl, vu, .int st t] } } := I4.kept (t' := s4.toks) fun b ob q => Heap.get?_push_of_some _ q
  obtain ⟨its, r, ht, hz⟩ := I5.list hx
  have pt : IsPart (.int st t) (some st) := .int st t
  refine tail_any (ops := [.ref a, .ref s4.heap.objs.size]) ht.isList.typeIs slot_list_getitem.lookup (wpAny_getItem_list_slice ht.isList (Heap.IsSliceOf.new ..) pl pu pt (fun z => h0 (Option.some.inj z)) ?_ (by rw [List.size_toArray]; have := r.length; omega)) (by with_unfolding_all rfl)
  have e1 : (slicePick its.toArray l u (some st)).toList = (sliceRange (sliceBounds l u (some st) xs.length).1 (sliceBounds l u (some st) xs.length).2.1 (sliceBounds l u (some st) xs.length).2.2).filterMap (its[·]?) := by
    unfold slicePick
    rw [List.size_toArray, ← r.length]
    simp
  refine ⟨.ref _, _, I5.laid (t' := s4.toks) (o := .lst (stepV xs l u st)) (fun b ob q => Heap.get?_push_of_some _ q) (Nat.le_refl _) ?_, rfl, q _ (I5.hok.fresh (Nat.le_refl _))⟩
  refine ⟨sz, (slicePick its.toArray l u (some st)).toList, 0, ?_, Heap.get?_push_size _ rfl⟩
  rw [e1]
  exact vals_pick r _
/-! ### a slice with a step above nought, of whole numbers -/
def stepI (xs : List Int) (lo hi : Option Int) (st : Int) : List Int := (sliceRange (sliceBounds lo hi (some st) xs.length).1 (sliceBounds lo hi (some st) xs.length).2.1 (sliceBounds lo hi (some st) xs.length).2.2).filterMap (xs[·]?)
theorem stepV_ints (xs : List Int) (lo hi : Option Int) (st : Int) : stepV (xs.map V.int) lo hi st = (stepI xs lo hi st).map V.int := by
  unfold stepV stepI
  rw [List.length_map, List.map_filterMap]
  refine congrArg (fun f => List.filterMap f _) (funext fun i => ?_)
  rw [List.getElem?_map]
theorem range_up {s t c : Int} (hs : 0 ≤ s) (hc : 0 < c) : (sliceRange s t c).Pairwise (· < ·) := by
  unfold sliceRange
  rw [List.pairwise_map]
  refine List.pairwise_lt_range.imp fun {k k'} h => ?_
  have m1 := Int.mul_lt_mul_of_pos_left (show (k : Int) < (k' : Int) by omega) hc
  have m2 := Int.mul_nonneg (Int.le_of_lt hc) (show 0 ≤ (k : Int) by omega)
  omega
theorem pick_sub {α : Type} (xs : List α) : ∀ (idx : List Nat) (k : Nat), idx.Pairwise (· < ·) → (∀ i ∈ idx, k ≤ i) → (idx.filterMap (xs[·]?)).Sublist (xs.drop k)
  | [], k, _, _ => List.nil_sublist _
  | i :: idx, k, r, hk => by
    have rr := List.pairwise_cons.mp r
    have ih := pick_sub xs idx (i + 1) rr.2 fun j hj => rr.1 j hj
    have ki := hk i List.mem_cons_self
    have dd : (xs.drop i).Sublist (xs.drop k) := by
      have e : xs.drop i = (xs.drop k).drop (i - k) := by
        rw [List.drop_drop]
        congr 1
        omega
      rw [e]
      exact List.drop_sublist _ _
    rw [List.filterMap_cons]
    rcases Nat.lt_or_ge i xs.length with lt | ge
    · rw [List.getElem?_eq_getElem lt]
      refine List.Sublist.trans ?_ dd
      rw [List.drop_eq_getElem_cons lt]
      exact ih.cons_cons _
    · rw [List.getElem?_eq_none ge]
      have e2 : (xs.drop (i + 1)).Sublist (xs.drop i) := by
        have e : xs.drop (i + 1) = (xs.drop i).drop 1 := by rw [List.drop_drop]
        rw [e]
        exact List.drop_sublist _ _
      exact ih.trans (e2.trans dd)
theorem bounds_lo {lo hi : Option Int} {c : Int} (hc : 0 < c) (n : Nat) : 0 ≤ (sliceBounds lo hi (some c) n).1 ∧ (sliceBounds lo hi (some c) n).2.2 = c := by
  have e : (some c).getD 1 = c := rfl
  refine ⟨?_, rfl⟩
  unfold sliceBounds
  dsimp only
  rw [e, if_pos hc]
  cases lo with
  | none => exact Int.le_refl 0
  | some i =>
    show 0 ≤ (if c > 0 then _ else _)
    rw [if_pos hc]
    exact Int.le_max_left _ _
theorem stepI_sub (xs : List Int) (lo hi : Option Int) {c : Int} (hc : 0 < c) : (stepI xs lo hi c).Sublist xs := by
  have b := bounds_lo (lo := lo) (hi := hi) hc xs.length
  have r : (sliceRange (sliceBounds lo hi (some c) xs.length).1 (sliceBounds lo hi (some c) xs.length).2.1 (sliceBounds lo hi (some c) xs.length).2.2).Pairwise (· < ·) := by
    rw [b.2]
    exact range_up b.1 hc
  exact pick_sub xs _ 0 r fun i _ => Nat.zero_le i
end Sk
namespace Sk
open PySem L2
def top (i : Nat) : Stmt := PySem.Challenge.pw_skipladder_k13_whole_places.main.body.getD i (.Pass ⟨0, 0, 0, 0⟩)
abbrev s_power : Stmt := top 1
theorem sc_power : FnScope ["width", "level", "answer", "_"] ["width", "level"] (defScope s_power) := ⟨rfl, rfl, rfl, by decide +kernel, rfl, by decide +kernel, by decide +kernel⟩
abbrev s_block : Stmt := top 2
theorem sc_block : FnScope ["width", "level", "number"] ["width", "level", "number"] (defScope s_block) := ⟨rfl, rfl, rfl, by decide +kernel, rfl, by decide +kernel, by decide +kernel⟩
abbrev s_thinned : Stmt := top 3
theorem sc_thinned : FnScope ["width", "level", "row", "least", "number"] ["width", "level", "row"] (defScope s_thinned) := ⟨rfl, rfl, rfl, by decide +kernel, rfl, by decide +kernel, by decide +kernel⟩
abbrev s_tall : Stmt := top 4
theorem sc_tall : FnScope ["width", "high", "before", "number", "levels", "level"] ["width", "high", "before", "number"] (defScope s_tall) := ⟨rfl, rfl, rfl, by decide +kernel, rfl, by decide +kernel, by decide +kernel⟩
abbrev s_ladder_init : Stmt := inClass (top 14) 0
theorem sc_ladder_init : FnScope ["self", "width", "high"] ["self", "width", "high"] (defScope s_ladder_init) := ⟨rfl, rfl, rfl, by decide +kernel, rfl, by decide +kernel, by decide +kernel⟩
abbrev s_ladder_put : Stmt := inClass (top 14) 1
theorem sc_ladder_put : FnScope ["self", "number", "level", "went"] ["self", "number"] (defScope s_ladder_put) := ⟨rfl, rfl, rfl, by decide +kernel, rfl, by decide +kernel, by decide +kernel⟩
abbrev s_ladder_take : Stmt := inClass (top 14) 2
theorem sc_ladder_take : FnScope ["self", "number", "heirs", "level", "came"] ["self", "number"] (defScope s_ladder_take) := ⟨rfl, rfl, rfl, by decide +kernel, rfl, by decide +kernel, by decide +kernel⟩
abbrev s_ladder_has : Stmt := inClass (top 14) 3
theorem sc_ladder_has : FnScope ["self", "number"] ["self", "number"] (defScope s_ladder_has) := ⟨rfl, rfl, rfl, by decide +kernel, rfl, by decide +kernel, by decide +kernel⟩
abbrev s_ladder_row : Stmt := inClass (top 14) 4
theorem sc_ladder_row : FnScope ["self"] ["self"] (defScope s_ladder_row) := ⟨rfl, rfl, rfl, by decide +kernel, rfl, by decide +kernel, by decide +kernel⟩
abbrev s_ladder_level : Stmt := inClass (top 14) 5
theorem sc_ladder_level : FnScope ["self", "level"] ["self", "level"] (defScope s_ladder_level) := ⟨rfl, rfl, rfl, by decide +kernel, rfl, by decide +kernel, by decide +kernel⟩
abbrev s_ladder_ahead : Stmt := inClass (top 14) 6
theorem sc_ladder_ahead : FnScope ["self", "level", "number", "begin", "spot", "reach"] ["self", "level", "number"] (defScope s_ladder_ahead) := ⟨rfl, rfl, rfl, by decide +kernel, rfl, by decide +kernel, by decide +kernel⟩
abbrev s_ladder_trail : Stmt := inClass (top 14) 7
theorem sc_ladder_trail : FnScope ["self", "number"] ["self", "number"] (defScope s_ladder_trail) := ⟨rfl, rfl, rfl, by decide +kernel, rfl, by decide +kernel, by decide +kernel⟩
abbrev s_ladder_below : Stmt := inClass (top 14) 8
theorem sc_ladder_below : FnScope ["self", "number"] ["self", "number"] (defScope s_ladder_below) := ⟨rfl, rfl, rfl, by decide +kernel, rfl, by decide +kernel, by decide +kernel⟩
abbrev s_ladder_above : Stmt := inClass (top 14) 9
theorem sc_ladder_above : FnScope ["self", "number"] ["self", "number"] (defScope s_ladder_above) := ⟨rfl, rfl, rfl, by decide +kernel, rfl, by decide +kernel, by decide +kernel⟩
abbrev s_ladder_place : Stmt := inClass (top 14) 10
theorem sc_ladder_place : FnScope ["self", "number"] ["self", "number"] (defScope s_ladder_place) := ⟨rfl, rfl, rfl, by decide +kernel, rfl, by decide +kernel, by decide +kernel⟩
abbrev s_ladder_at : Stmt := inClass (top 14) 11
theorem sc_ladder_at : FnScope ["self", "place"] ["self", "place"] (defScope s_ladder_at) := ⟨rfl, rfl, rfl, by decide +kernel, rfl, by decide +kernel, by decide +kernel⟩
abbrev s_ladder_way : Stmt := inClass (top 14) 12
theorem sc_ladder_way : FnScope ["self", "place"] ["self", "place"] (defScope s_ladder_way) := ⟨rfl, rfl, rfl, by decide +kernel, rfl, by decide +kernel, by decide +kernel⟩
abbrev s_ladder_stretch : Stmt := inClass (top 14) 13
theorem sc_ladder_stretch : FnScope ["self", "low", "high", "number"] ["self", "low", "high"] (defScope s_ladder_stretch) := ⟨rfl, rfl, rfl, by decide +kernel, rfl, by decide +kernel, by decide +kernel⟩
abbrev s_ladder_counted : Stmt := inClass (top 14) 14
theorem sc_ladder_counted : FnScope ["self", "low", "high"] ["self", "low", "high"] (defScope s_ladder_counted) := ⟨rfl, rfl, rfl, by decide +kernel, rfl, by decide +kernel, by decide +kernel⟩
abbrev s_ladder_check_number : Stmt := inClass (top 14) 15
theorem sc_ladder_check_number : FnScope ["self", "number"] ["self", "number"] (defScope s_ladder_check_number) := ⟨rfl, rfl, rfl, by decide +kernel, rfl, by decide +kernel, by decide +kernel⟩
abbrev s_ladder_check_end : Stmt := inClass (top 14) 16
theorem sc_ladder_check_end : FnScope ["self", "number"] ["self", "number"] (defScope s_ladder_check_end) := ⟨rfl, rfl, rfl, by decide +kernel, rfl, by decide +kernel, by decide +kernel⟩
abbrev s_ladder_check_level : Stmt := inClass (top 14) 17
theorem sc_ladder_check_level : FnScope ["self", "level"] ["self", "level"] (defScope s_ladder_check_level) := ⟨rfl, rfl, rfl, by decide +kernel, rfl, by decide +kernel, by decide +kernel⟩
abbrev s_ladder_check_place : Stmt := inClass (top 14) 18
theorem sc_ladder_check_place : FnScope ["self", "place"] ["self", "place"] (defScope s_ladder_check_place) := ⟨rfl, rfl, rfl, by decide +kernel, rfl, by decide +kernel, by decide +kernel⟩
abbrev s_ladder_spot : Stmt := inClass (top 14) 19
theorem sc_ladder_spot : FnScope ["self", "number", "kept"] ["self", "number"] (defScope s_ladder_spot) := ⟨rfl, rfl, rfl, by decide +kernel, rfl, by decide +kernel, by decide +kernel⟩
abbrev s_ladder_at_or_none : Stmt := inClass (top 14) 20
theorem sc_ladder_at_or_none : FnScope ["self", "spot"] ["self", "spot"] (defScope s_ladder_at_or_none) := ⟨rfl, rfl, rfl, by decide +kernel, rfl, by decide +kernel, by decide +kernel⟩
abbrev s_ladder_before : Stmt := inClass (top 14) 21
theorem sc_ladder_before : FnScope ["self", "spot"] ["self", "spot"] (defScope s_ladder_before) := ⟨rfl, rfl, rfl, by decide +kernel, rfl, by decide +kernel, by decide +kernel⟩
abbrev s_ladder_begin : Stmt := inClass (top 14) 22
theorem sc_ladder_begin : FnScope ["self", "level", "number"] ["self", "level", "number"] (defScope s_ladder_begin) := ⟨rfl, rfl, rfl, by decide +kernel, rfl, by decide +kernel, by decide +kernel⟩
abbrev s_ladder_reach : Stmt := inClass (top 14) 23
theorem sc_ladder_reach : FnScope ["self", "level", "spot", "begin"] ["self", "level", "spot"] (defScope s_ladder_reach) := ⟨rfl, rfl, rfl, by decide +kernel, rfl, by decide +kernel, by decide +kernel⟩
abbrev s_ladder_heirs : Stmt := inClass (top 14) 24
theorem sc_ladder_heirs : FnScope ["self", "number", "spot", "levels", "after", "beside", "level"] ["self", "number"] (defScope s_ladder_heirs) := ⟨rfl, rfl, rfl, by decide +kernel, rfl, by decide +kernel, by decide +kernel⟩
abbrev s_ladder_walk : Stmt := inClass (top 14) 25
theorem sc_ladder_walk : FnScope ["self", "last", "places", "level", "spot", "reach"] ["self", "last"] (defScope s_ladder_walk) := ⟨rfl, rfl, rfl, by decide +kernel, rfl, by decide +kernel, by decide +kernel⟩
abbrev s_l_whole : Stmt := top 16
theorem sc_l_whole : FnScope ["_law_found"] ["_law_found"] (defScope s_l_whole) := ⟨rfl, rfl, rfl, by decide +kernel, rfl, by decide +kernel, by decide +kernel⟩
abbrev s_l_cell_at : Stmt := top 17
theorem sc_l_cell_at : FnScope ["_law_script", "_law_k"] ["_law_script", "_law_k"] (defScope s_l_cell_at) := ⟨rfl, rfl, rfl, by decide +kernel, rfl, by decide +kernel, by decide +kernel⟩
abbrev s_l_number : Stmt := top 18
theorem sc_l_number : FnScope ["_law_cell", "_law_limit"] ["_law_cell", "_law_limit"] (defScope s_l_number) := ⟨rfl, rfl, rfl, by decide +kernel, rfl, by decide +kernel, by decide +kernel⟩
abbrev s_l_deed : Stmt := top 19
theorem sc_l_deed : FnScope ["_law_ladder", "_law_row", "_law_gone", "_law_cell", "_law_limit", "_law_number_here"] ["_law_ladder", "_law_row", "_law_gone", "_law_cell", "_law_limit"] (defScope s_l_deed) := ⟨rfl, rfl, rfl, by decide +kernel, rfl, by decide +kernel, by decide +kernel⟩
abbrev s_l_missing : Stmt := top 20
theorem sc_l_missing : FnScope ["_law_ladder", "_law_number_here", "_law_refused_here", "_law_level"] ["_law_ladder", "_law_number_here"] (defScope s_l_missing) := ⟨rfl, rfl, rfl, by decide +kernel, rfl, by decide +kernel, by decide +kernel⟩
abbrev s_l_no_place : Stmt := top 21
theorem sc_l_no_place : FnScope ["_law_ladder", "_law_place", "_law_refused_here"] ["_law_ladder", "_law_place"] (defScope s_l_no_place) := ⟨rfl, rfl, rfl, by decide +kernel, rfl, by decide +kernel, by decide +kernel⟩
abbrev s_l_gap : Stmt := top 22
theorem sc_l_gap : FnScope ["_law_row", "_law_number_here", "_law_found", "_law_one"] ["_law_row", "_law_number_here", "_law_found"] (defScope s_l_gap) := ⟨rfl, rfl, rfl, by decide +kernel, rfl, by decide +kernel, by decide +kernel⟩
abbrev s_l_way : Stmt := top 23
theorem sc_l_way : FnScope ["_law_ladder", "_law_row", "_law_place", "_law_found", "_law_left", "_law_k", "_law_ahead", "_law_due", "_law_kept"] ["_law_ladder", "_law_row", "_law_place"] (defScope s_l_way) := ⟨rfl, rfl, rfl, by decide +kernel, rfl, by decide +kernel, by decide +kernel⟩
abbrev s_l_stretch : Stmt := top 24
theorem sc_l_stretch : FnScope ["_law_ladder", "_law_row", "_law_low", "_law_high", "_law_due", "_law_found", "_law_counted", "_law_one"] ["_law_ladder", "_law_row", "_law_low", "_law_high"] (defScope s_l_stretch) := ⟨rfl, rfl, rfl, by decide +kernel, rfl, by decide +kernel, by decide +kernel⟩
abbrev s_l_refused : Stmt := top 25
theorem sc_l_refused : FnScope ["_law_ladder", "_law_low", "_law_high", "_law_refused_here"] ["_law_ladder", "_law_low", "_law_high"] (defScope s_l_refused) := ⟨rfl, rfl, rfl, by decide +kernel, rfl, by decide +kernel, by decide +kernel⟩
abbrev s_l_filled : Stmt := top 26
theorem sc_l_filled : FnScope ["_law_script", "_law_ladder", "_law_limit", "_law_row", "_law_gone", "_law_k", "_law_number_here", "_law_cell"] ["_law_script", "_law_ladder", "_law_limit"] (defScope s_l_filled) := ⟨rfl, rfl, rfl, by decide +kernel, rfl, by decide +kernel, by decide +kernel⟩
abbrev s_law : Stmt := top 27
theorem sc_law : FnScope ["_law_script", "_law_width", "_law_limit", "_law_turn", "_law_ladder", "_law_row", "_law_gone", "_law_number_here", "_law_held", "_law_one", "_law_kept", "_law_two", "_law_far", "_law_pair", "_law_place"] ["_law_script"] (defScope s_law) := ⟨rfl, rfl, rfl, by decide +kernel, rfl, by decide +kernel, by decide +kernel⟩
abbrev nI (i : Int) : Option V := some (.int i)
abbrev nR (a : Addr) : Option V := some (.ref a)
/-! ### powers -/
theorem pow_pos' {w : Int} (h : 2 ≤ w) (l : Nat) : 0 < w ^ l := Int.pow_pos (by omega)
theorem pow_le9 {w : Int} (h : 2 ≤ w) (h9 : w ≤ 9) : ∀ l : Nat, w ^ l ≤ 9 ^ l
  | 0 => by simp
  | l + 1 => by
    rw [Int.pow_succ, Int.pow_succ]
    have i := pow_le9 h h9 l
    have p := pow_pos' h l
    exact Int.mul_le_mul i h9 (by omega) (by omega)
theorem pow_le12 {w : Int} (h : 2 ≤ w) (h9 : w ≤ 9) {l : Nat} (hl : l ≤ 12) : w ^ l ≤ 282429536481 := by
  have i := pow_le9 h h9 l
  have j : (9 : Int) ^ l ≤ 9 ^ 12 := by
    have := Nat.pow_le_pow_right (n := 9) (by omega) hl
    exact_mod_cast this
  have k : (9 : Int) ^ 12 = 282429536481 := by decide
  omega
theorem div_ok {w : Int} (h : 2 ≤ w) (h9 : w ≤ 9) {l : Nat} (hl : l ≤ 12) (n : Int) : CDivW n (w ^ l) := by
  have p := pow_pos' h l
  have q := pow_le12 h h9 hl
  exact wide_div p (b := 64) (by omega) (by omega) (by omega)
theorem pow_ge2 {w : Int} (h : 2 ≤ w) : ∀ {l : Nat}, 1 ≤ l → 2 ≤ w ^ l
  | l + 1, _ => by
    rw [Int.pow_succ]
    have p := pow_pos' h l
    have := Int.mul_le_mul (show 1 ≤ w ^ l by omega) h (by omega) (by omega)
    omega
/-! ### deep equality of data -/
def dI (ns : List Int) : PyData := .list (ns.map PyData.int)
theorem dpAll_ints {K : PySem.W.Frag} {H : Hp} : ∀ ns : List Int, DpAll K H (ns.map V.int) (ns.map PyData.int)
  | [] => .nil
  | _ :: r => .cons (.int _) (dpAll_ints r)
theorem dp_ints {K : PySem.W.Frag} {H : Hp} {a : Addr} {ns : List Int} (h : SqL K H a (ns.map V.int)) : Dp K H (.ref a) (dI ns) := .lst h (dpAll_ints ns)
theorem canLay_ints : ∀ ns : List Int, PyData.canLayAll0 (ns.map PyData.int) = true
  | [] => rfl
  | _ :: r => canLay_ints r
theorem depth_ints : ∀ ns : List Int, PyData.depthAll (ns.map PyData.int) = 0
  | [] => rfl
  | _ :: r => by
    show max 0 (PyData.depthAll (r.map PyData.int)) = 0
    rw [depth_ints r]
    rfl
theorem shaped_ints (ns : List Int) : SeqAt.shaped (dI ns) = true := by
  unfold SeqAt.shaped dI
  have h1 : (PyData.list (ns.map PyData.int)).canLay0 = true := canLay_ints ns
  have h2 : (PyData.list (ns.map PyData.int)).depth = 1 := by
    show PyData.depthAll (ns.map PyData.int) + 1 = 1
    rw [depth_ints]
  rw [h1, h2]
  rfl
/-- two lists of the same ints are equal -/
theorem eqD_ints {K : PySem.W.Frag} {H : Hp} {a b : Addr} {ns ms : List Int} {Q : VK} (ha : SqL K H a (ns.map V.int)) (hb : SqL K H b (ms.map V.int)) (e : ns = ms) (q : Q (.bl true) H) : rEqD K (.ref a) (.ref b) H Q := by
  subst e
  refine ⟨dI ns, dI ns, dp_ints ha, dp_ints hb, shaped_ints ns, shaped_ints ns, ?_⟩
  rw [SeqAt.eqv_refl _ (SeqAt.canLay_of_shaped (shaped_ints ns))]
  exact q
/-! ### heaps -/
theorem same_upd {H : Hp} {p : Addr} {o : HO} (h : H p = none) : Same H (upd H p o) := fun b x e => by
  rw [upd_ne (ne_of_none e h)]
  exact e
theorem same_mut {H0 H : Hp} {p : Addr} {o : HO} (s : Same H0 H) (h : H0 p = none) : Same H0 (upd H p o) := fun b x e => by
  rw [upd_ne (ne_of_none e h)]
  exact s _ _ e
/-! ### from what a reading evaluates to, to the reading -/
theorem ev_use {te : TE} {σ : L2.St} {H : Hp} {v : V} {Q : VK} (h : Evl.Ev te σ H v) (k : ∀ H2, Same H H2 → Q v H2) : te σ H Q := h H (Evl.Ex.refl H) Q k
theorem evT_use {t : TT} {σ : L2.St} {H : Hp} {b : Bool} {Q : Bool → Hp → Prop} (h : Evl.EvT t σ H b) (k : ∀ H2, Same H H2 → Q b H2) : t σ H Q := h H (Evl.Ex.refl H) Q k
theorem evL_use {te : TE} {σ : L2.St} {H : Hp} {xs : List V} {Q : VK} (h : Evl.EvL te σ H xs) (k : ∀ p H2, H p = none → Same H H2 → H2 p = some (.lst xs) → Q (.ref p) H2) : te σ H Q := h H (Evl.Ex.refl H) Q k
/-- a built-in over a new list -/
theorem ev_cbL {r : List V → Hp → VK → Prop} {ta : TE} {σ : L2.St} {H : Hp} {xs : List V} {z : V} (h : Evl.EvL ta σ H xs) (hr : ∀ p H1, H1 p = some (.lst xs) → ∀ Q : VK, Q z H1 → r [.ref p] H1 Q) : Evl.Ev (tCB r (tCons ta tNil)) σ H z := fun H1 e Q q =>
  h H1 e _ fun p H2 _ e2 h2 => hr p H2 h2 Q (q H2 e2)
theorem et_yes {σ : L2.St} {H : Hp} : Evl.EvT tYes σ H true := fun H1 _ _ q => q H1 (Evl.Ex.refl H1)
theorem given_true (n : Nat) (v : V) : Evl.given n (fun _ => true) (fun _ => v) = List.replicate n v := by
  unfold Evl.given
  rw [List.filter_eq_self.mpr (fun _ _ => rfl), List.map_const', List.length_range]
/-- all([g(x) for x in xs]) where g tells True of each -/
theorem ev_allL {K : PySem.W.Frag} {te : TE} {σ : L2.St} {H : Hp} {n : Nat} (h : Evl.EvL te σ H (Evl.given n (fun _ => true) (fun _ => V.bl true))) : Evl.Ev (tCB (rAll K) (tCons te tNil)) σ H (.bl true) := ev_cbL h fun p H1 hp Q q => by
  rw [given_true, show List.replicate n (V.bl true) = (List.replicate n true).map V.bl by rw [List.map_replicate]] at hp
  refine ⟨p, _, rfl, SqL.of hp, ?_⟩
  rw [show (List.replicate n true).all id = true by rw [List.all_replicate]; simp]
  exact q
/-- an if of two tests, the first one by what it evaluates to -/
theorem s_and {t u : TT} {tu : TS} {D : Ends} {σ : L2.St} {H : Hp} {a : Bool} (h : Evl.EvT t σ H a) (k1 : a = true → ∀ H1, Same H H1 → u σ H1 fun c H2 => if c = true then tu D σ H2 else D.nx σ H2) (k0 : a = false → ∀ H1, Same H H1 → D.nx σ H1) : tIfS (tAnd t u) tu tNext D σ H :=
  h H (Evl.Ex.refl H) _ fun H1 e => by
    cases a with
    | true => exact k1 rfl H1 e
    | false => exact k0 rfl H1 e
/-! what stands on a level: those of a row whose block is not that of the one ahead of them -/
def thinP (s : Int) (f : Nat → Int) (k : Nat) : Bool := decide (k = 0) || !decide (f (k - 1) / s = f k / s)
def thinF (s : Int) (f : Nat → Int) (m : Nat) : List Int := ((List.range m).filter (thinP s f)).map f
theorem thinF_zero (s : Int) (f : Nat → Int) : thinF s f 0 = [] := rfl
theorem thinF_yes {s : Int} {f : Nat → Int} {m : Nat} (h : thinP s f m = true) : thinF s f (m + 1) = thinF s f m ++ [f m] := by
  unfold thinF
  rw [List.range_succ, List.filter_append, List.map_append, List.filter_cons, if_pos h]
  rfl
theorem thinF_no {s : Int} {f : Nat → Int} {m : Nat} (h : ¬ thinP s f m = true) : thinF s f (m + 1) = thinF s f m := by
  unfold thinF
  rw [List.range_succ, List.filter_append, List.map_append, List.filter_cons, if_neg h]
  exact List.append_nil _
theorem thinF_len (s : Int) (f : Nat → Int) (m : Nat) : (thinF s f m).length ≤ m := by
  unfold thinF
  rw [List.length_map]
  have h := List.length_filter_le (thinP s f) (List.range m)
  rw [List.length_range] at h
  exact h
theorem thin_last (s : Int) (f : Nat → Int) : ∀ m : Nat, ∃ (i : List Int) (z : Int), thinF s f (m + 1) = i ++ [z] ∧ z / s = f m / s
  | 0 => ⟨[], f 0, thinF_yes rfl, rfl⟩
  | m + 1 => by
    by_cases h : thinP s f (m + 1) = true
    · exact ⟨thinF s f (m + 1), f (m + 1), thinF_yes h, rfl⟩
    · obtain ⟨i, z, e, ez⟩ := thin_last s f m
      refine ⟨i, z, by rw [thinF_no h, e], ?_⟩
      rw [ez]
      unfold thinP at h
      simp at h
      exact h
def sp_thinned (K : PySem.W.Frag) : Sp := fun vs H Q _ => ∃ (wd : Int) (l : Nat) (a : Addr) (row : List Int), vs = [.int wd, .int (l : Int), .ref a] ∧ 2 ≤ wd ∧ wd ≤ 9 ∧ l ≤ 12 ∧ SqL K H a (row.map V.int) ∧ row.length ≤ 1000 ∧
  ∀ H' p, Same H H' → H p = none → H' p = some (.lst ((thinF (wd ^ l) (fun k => row.getD k 0) row.length).map V.int)) → Q (.ref p) H'
/-! ### equality of lists of ints, as a value -/
theorem eqvAll_ints : ∀ ns ms : List Int, PyData.eqvAll (ns.map PyData.int) (ms.map PyData.int) = decide (ns = ms)
  | [], [] => rfl
  | [], _ :: _ => rfl
  | _ :: _, [] => rfl
  | a :: ns, b :: ms => by
    show (PyData.eqv (.int a) (.int b) && PyData.eqvAll (ns.map PyData.int) (ms.map PyData.int)) = decide (a :: ns = b :: ms)
    rw [eqvAll_ints ns ms]
    show ((a == b) && decide (ns = ms)) = decide (a :: ns = b :: ms)
    by_cases h1 : a = b
    · subst h1
      by_cases h2 : ns = ms
      · subst h2
        simp
      · simp [h2]
    · simp [h1]
theorem eqv_dI (ns ms : List Int) : PyData.eqv (dI ns) (dI ms) = decide (ns = ms) := eqvAll_ints ns ms
theorem rv_eqI {K : PySem.W.Frag} {H : Hp} {a b : Addr} {ns ms : List Int} (ha : SqL K H a (ns.map V.int)) (hb : SqL K H b (ms.map V.int)) : Evl.RV (rEqD K) (.ref a) (.ref b) H (.bl (decide (ns = ms))) := fun H1 e Q q =>
  ⟨dI ns, dI ms, dp_ints (Evl.ex_l e ha), dp_ints (Evl.ex_l e hb), shaped_ints ns, shaped_ints ms, by
    rw [eqv_dI]
    exact q H1 (Evl.Ex.refl H1)⟩
theorem rv_neI {K : PySem.W.Frag} {H : Hp} {a b : Addr} {ns ms : List Int} (ha : SqL K H a (ns.map V.int)) (hb : SqL K H b (ms.map V.int)) : Evl.RV (rNeD K) (.ref a) (.ref b) H (.bl (!decide (ns = ms))) := fun H1 e Q q =>
  ⟨dI ns, dI ms, dp_ints (Evl.ex_l e ha), dp_ints (Evl.ex_l e hb), shaped_ints ns, shaped_ints ms, by
    rw [eqv_dI]
    exact q H1 (Evl.Ex.refl H1)⟩
/-- x in a list of ints -/
theorem inV_ints (x : Int) : ∀ ns : List Int, inV (.int x) (ns.map V.int) = decide (x ∈ ns)
  | [] => rfl
  | a :: ns => by
    show (eqV (.int a) (.int x) || inV (.int x) (ns.map V.int)) = decide (x ∈ a :: ns)
    rw [inV_ints x ns]
    show ((a == x) || decide (x ∈ ns)) = decide (x ∈ a :: ns)
    by_cases h1 : a = x
    · subst h1
      simp
    · have h2 : ¬ x = a := fun z => h1 z.symm
      simp [h1, h2]
theorem flat_ints (ns : List Int) : (ns.map V.int).all flatV = true := by
  rw [List.all_map]
  exact List.all_eq_true.mpr fun _ _ => rfl
theorem rv_inI {K : PySem.W.Frag} {H : Hp} {a : Addr} {ns : List Int} {x : Int} (ha : SqL K H a (ns.map V.int)) : Evl.RV (rIn K false) (.int x) (.ref a) H (.bl (decide (x ∈ ns))) := by
  rw [← inV_ints]
  exact Evl.rv_isL ha rfl (flat_ints ns)
theorem rv_niI {K : PySem.W.Frag} {H : Hp} {a : Addr} {ns : List Int} {x : Int} (ha : SqL K H a (ns.map V.int)) : Evl.RV (rIn K true) (.int x) (.ref a) H (.bl (!decide (x ∈ ns))) := by
  rw [← inV_ints]
  exact Evl.rv_niL ha rfl (flat_ints ns)
/-- two data that are the same -/
theorem eqD_same {K : PySem.W.Frag} {H : Hp} {x y : V} {d : PyData} {Q : VK} (hx : Dp K H x d) (hy : Dp K H y d) (sd : SeqAt.shaped d = true) (q : Q (.bl true) H) : rEqD K x y H Q := ⟨d, d, hx, hy, sd, sd, by
  rw [SeqAt.eqv_refl _ (SeqAt.canLay_of_shaped sd)]
  exact q⟩
theorem neD_same {K : PySem.W.Frag} {H : Hp} {x y : V} {d : PyData} {Q : VK} (hx : Dp K H x d) (hy : Dp K H y d) (sd : SeqAt.shaped d = true) (q : Q (.bl false) H) : rNeD K x y H Q := ⟨d, d, hx, hy, sd, sd, by
  rw [SeqAt.eqv_refl _ (SeqAt.canLay_of_shaped sd)]
  exact q⟩
theorem neD_ints {K : PySem.W.Frag} {H : Hp} {a b : Addr} {ns ms : List Int} {Q : VK} (ha : SqL K H a (ns.map V.int)) (hb : SqL K H b (ms.map V.int)) (e : ns = ms) (q : Q (.bl false) H) : rNeD K (.ref a) (.ref b) H Q := by
  subst e
  exact neD_same (dp_ints ha) (dp_ints hb) (shaped_ints ns) q
/-! ### comprehensions over a list of ints -/
theorem getD_map_int (ns : List Int) (i : Nat) (h : i < ns.length) : (ns.map V.int).getD i .non = .int (ns.getD i 0) := by
  rw [List.getD_eq_getElem?_getD, List.getD_eq_getElem?_getD, List.getElem?_map, List.getElem?_eq_getElem h]
  rfl
theorem range_getD (ns : List Int) : (List.range ns.length).map (fun k => ns.getD k 0) = ns := by
  refine List.ext_getElem (by rw [List.length_map, List.length_range]) fun i h1 h2 => ?_
  rw [List.getElem_map, List.getElem_range, List.getD_eq_getElem?_getD, List.getElem?_eq_getElem h2]
  rfl
theorem given_ints {α : Type} (ns : List Int) (p : Int → Bool) (f : Int → V) : Evl.given ns.length (fun k => p (ns.getD k 0)) (fun k => f (ns.getD k 0)) = (ns.filter p).map f := by
  have e : ns.filter p = ((List.range ns.length).filter fun k => p (ns.getD k 0)).map fun k => ns.getD k 0 := by
    have h := List.filter_map (p := p) (f := fun k => ns.getD k 0) (l := List.range ns.length)
    rw [range_getD] at h
    exact h
  unfold Evl.given
  rw [e, List.map_map]
  rfl
theorem int_at {ns : List Int} {i : Nat} {x : V} (h : (ns.map V.int)[i]? = some x) : i < ns.length ∧ x = .int (ns.getD i 0) ∧ ns.getD i 0 ∈ ns := by
  have hi := (List.getElem?_eq_some_iff.mp h).1
  rw [List.length_map] at hi
  rw [List.getElem?_map, List.getElem?_eq_getElem hi] at h
  rw [List.getD_eq_getElem?_getD, List.getElem?_eq_getElem hi]
  exact ⟨hi, (Option.some.inj h).symm, List.getElem_mem hi⟩
/-- [f(x) for x in xs if p(x)] over a list of ints -/
theorem el_ints {K : PySem.W.Frag} {σ : L2.St} {H : Hp} {tl te : TE} {t : TT} {a : Addr} {ns : List Int} {j : Nat} {vs : List Nat} (p : Int → Bool) (f : Int → V) (h : Evl.Ev tl σ H (.ref a)) (hx : SqL K H a (ns.map V.int)) (hz : ns.length ≤ 40000)
    (hw : ∀ x, wipe ((wipe σ vs).set j (some x)) vs = wipe σ vs) (ht : ∀ x ∈ ns, ∀ H1, Same H H1 → Evl.EvT t ((wipe σ vs).set j (some (.int x))) H1 (p x))
    (he : ∀ x ∈ ns, ∀ H1, Same H H1 → p x = true → Evl.Ev te ((wipe σ vs).set j (some (.int x))) H1 (f x)) : Evl.EvL (tLc (iList K tl) (gName j) t te vs) σ H ((ns.filter p).map f) := by
  rw [← given_ints (α := Unit) ns p f]
  have hl : (ns.map V.int).length = ns.length := List.length_map ..
  rw [← hl]
  refine Evl.el_lcL (fun k => p (ns.getD k 0)) (fun k => f (ns.getD k 0)) h hx (by rw [hl]; exact hz) hw (fun i x H1 e1 hi => ?_) (fun i x H1 e1 hi hp => ?_)
  · obtain ⟨_, rfl, m⟩ := int_at hi
    exact ht _ m H1 e1
  · obtain ⟨_, rfl, m⟩ := int_at hi
    exact he _ m H1 e1 hp
/-- [x for x in xs if p(x)] -/
theorem el_fil {K : PySem.W.Frag} {σ : L2.St} {H : Hp} {tl te : TE} {t : TT} {a : Addr} {ns : List Int} {j : Nat} {vs : List Nat} (p : Int → Bool) (h : Evl.Ev tl σ H (.ref a)) (hx : SqL K H a (ns.map V.int)) (hz : ns.length ≤ 40000)
    (hw : ∀ x, wipe ((wipe σ vs).set j (some x)) vs = wipe σ vs) (ht : ∀ x ∈ ns, ∀ H1, Same H H1 → Evl.EvT t ((wipe σ vs).set j (some (.int x))) H1 (p x))
    (he : ∀ x ∈ ns, ∀ H1, Same H H1 → p x = true → Evl.Ev te ((wipe σ vs).set j (some (.int x))) H1 (.int x)) : Evl.EvL (tLc (iList K tl) (gName j) t te vs) σ H ((ns.filter p).map V.int) := el_ints p V.int h hx hz hw ht he
/-! ### the law's comprehension of what stands on a level -/
def dueQ (s : Int) (f : Nat → Int) (k : Nat) : Bool := decide (V.int (k : Int) = V.int 0) || decide (f (k - 1) / s < f k / s)
theorem due_thinF {s : Int} (hs : 0 < s) {f : Nat → Int} {m : Nat} (hf : ∀ j, j + 1 < m → f j ≤ f (j + 1)) : (Evl.given m (dueQ s f) fun k => V.int (f k)) = (thinF s f m).map V.int := by
  unfold Evl.given thinF
  rw [List.map_map]
  have e1 : (List.range m).filter (dueQ s f) = (List.range m).filter (thinP s f) := by
    refine List.filter_congr fun k hk => ?_
    have hk' := List.mem_range.mp hk
    unfold dueQ thinP
    cases k with
    | zero => rfl
    | succ j =>
      have d1 : decide (V.int ((j + 1 : Nat) : Int) = V.int 0) = false := decide_eq_false fun z => by
        have := V.int.inj z
        omega
      have d2 : decide (j + 1 = 0) = false := rfl
      rw [d1, d2, Bool.false_or, Bool.false_or]
      show decide (f j / s < f (j + 1) / s) = !decide (f j / s = f (j + 1) / s)
      have le : f j / s ≤ f (j + 1) / s := Int.ediv_le_ediv hs (hf j hk')
      by_cases e : f j / s = f (j + 1) / s
      · rw [decide_eq_true e, decide_eq_false (by omega)]
        rfl
      · rw [decide_eq_false e, decide_eq_true (by omega)]
        rfl
  rw [e1]
  rfl
theorem rise_getD {xs : List Int} (h : xs.Pairwise (· < ·)) {i j : Nat} (hij : i < j) (hj : j < xs.length) : xs.getD i 0 < xs.getD j 0 := by
  rw [List.getD_eq_getElem?_getD, List.getD_eq_getElem?_getD, List.getElem?_eq_getElem hj, List.getElem?_eq_getElem (by omega)]
  exact List.pairwise_iff_getElem.mp h i j (by omega) hj hij
/-- the sizes: 1, w, w * w .. -/
def sizes (w : Int) (m : Nat) : List Int := (List.range m).map fun l => w ^ l
theorem sizes_succ (w : Int) (m : Nat) : sizes w (m + 1) = sizes w m ++ [w ^ m] := by
  unfold sizes
  rw [List.range_succ, List.map_append]
  rfl
theorem sizes_len (w : Int) (m : Nat) : (sizes w m).length = m := by
  unfold sizes
  rw [List.length_map, List.length_range]
theorem sizes_lenV (w : Int) (m : Nat) : ((sizes w m).map V.int).length = m := by rw [List.length_map, sizes_len]
theorem sizes_get (w : Int) {m l : Nat} (h : l < m) : ((sizes w m).map V.int)[l]? = some (.int (w ^ l)) := by
  unfold sizes
  rw [List.map_map, List.getElem?_map, List.getElem?_range h]
  rfl
/-- the law's numbers -/
def lawNum (c lim : Int) : Int := if c % 4 = 0 then c / 4 % lim else if c % 4 = 1 then c / 4 % (if 30 < lim then 30 else lim) else if c % 4 = 2 then lim - 1 - c / 4 % (if 30 < lim then 30 else lim) else c / 4 * 48271 % lim
theorem lawNum_in {c lim : Int} (h : 1 ≤ lim) : 0 ≤ lawNum c lim ∧ lawNum c lim < lim := by
  have a1 := Int.emod_nonneg (c / 4) (show lim ≠ 0 by omega)
  have a2 := Int.emod_lt_of_pos (c / 4) (show 0 < lim by omega)
  have b1 := Int.emod_nonneg (c / 4 * 48271) (show lim ≠ 0 by omega)
  have b2 := Int.emod_lt_of_pos (c / 4 * 48271) (show 0 < lim by omega)
  have c0 : 0 < (if 30 < lim then 30 else lim) ∧ (if 30 < lim then 30 else lim) ≤ lim := by split <;> omega
  have c1 := Int.emod_nonneg (c / 4) (show (if 30 < lim then 30 else lim) ≠ 0 by omega)
  have c2 := Int.emod_lt_of_pos (c / 4) c0.1
  unfold lawNum
  split
  · exact ⟨a1, a2⟩
  · split
    · exact ⟨c1, by omega⟩
    · split
      · exact ⟨by omega, by omega⟩
      · exact ⟨b1, b2⟩
theorem iteNT {c A B : Prop} [Decidable c] (hc : ¬ c) (h : A) : if (!decide c) = true then A else B := by
  rw [decide_eq_false hc]
  exact iteT h
theorem depthAll_le {k : Nat} : ∀ {ds : List PyData}, (∀ d ∈ ds, d.depth ≤ k) → PyData.depthAll ds ≤ k
  | [], _ => Nat.zero_le _
  | d :: ds, h => by
    show max d.depth (PyData.depthAll ds) ≤ k
    have h1 := h d List.mem_cons_self
    have h2 := depthAll_le (ds := ds) fun x hx => h x (List.mem_cons_of_mem _ hx)
    omega
theorem canLayAll_of : ∀ {ds : List PyData}, (∀ d ∈ ds, d.canLay0 = true) → PyData.canLayAll0 ds = true
  | [], _ => rfl
  | d :: ds, h => by
    show (d.canLay0 && PyData.canLayAll0 ds) = true
    rw [h d List.mem_cons_self, canLayAll_of fun x hx => h x (List.mem_cons_of_mem _ hx)]
    rfl
theorem shaped_list {ds : List PyData} (k : Nat) (h : ∀ d ∈ ds, d.canLay0 = true ∧ d.depth ≤ k) (hk : k + 1 ≤ 64) : SeqAt.shaped (.list ds) = true := by
  unfold SeqAt.shaped
  have h1 : (PyData.list ds).canLay0 = true := canLayAll_of fun d hd => (h d hd).1
  have h2 : (PyData.list ds).depth ≤ k + 1 := Nat.succ_le_succ (depthAll_le fun d hd => (h d hd).2)
  rw [h1, decide_eq_true (by omega)]
  rfl
/-! ### data that stands in the heap as a whole -/
mutual
inductive Dh (H : Hp) : V → PyData → Prop
  | non : Dh H .non .none
  | bl (b : Bool) : Dh H (.bl b) (.bool b)
  | int (i : Int) : Dh H (.int i) (.int i)
  | lst {a : Addr} {xs : List V} {ds : List PyData} (e : H a = some (.lst xs)) (h : DhAll H xs ds) : Dh H (.ref a) (.list ds)
  | tup {a : Addr} {xs : List V} {ds : List PyData} (e : H a = some (.tup xs)) (h : DhAll H xs ds) : Dh H (.ref a) (.tuple ds)
inductive DhAll (H : Hp) : List V → List PyData → Prop
  | nil : DhAll H [] []
  | cons {v : V} {vs : List V} {d : PyData} {ds : List PyData} (h : Dh H v d) (r : DhAll H vs ds) : DhAll H (v :: vs) (d :: ds)
end
mutual
theorem Dh.dp {K : PySem.W.Frag} {H : Hp} : ∀ {v : V} {d : PyData}, Dh H v d → Dp K H v d
  | _, _, .non => .non
  | _, _, .bl b => .bl b
  | _, _, .int i => .int i
  | _, _, .lst e h => .lst (SqL.of e) h.dp
  | _, _, .tup e h => .tup (SqT.of e) h.dp
theorem DhAll.dp {K : PySem.W.Frag} {H : Hp} : ∀ {vs : List V} {ds : List PyData}, DhAll H vs ds → DpAll K H vs ds
  | _, _, .nil => .nil
  | _, _, .cons h r => .cons h.dp r.dp
end
mutual
theorem Dh.same {H H' : Hp} (s : Same H H') : ∀ {v : V} {d : PyData}, Dh H v d → Dh H' v d
  | _, _, .non => .non
  | _, _, .bl b => .bl b
  | _, _, .int i => .int i
  | _, _, .lst e h => .lst (s _ _ e) (h.same s)
  | _, _, .tup e h => .tup (s _ _ e) (h.same s)
theorem DhAll.same {H H' : Hp} (s : Same H H') : ∀ {vs : List V} {ds : List PyData}, DhAll H vs ds → DhAll H' vs ds
  | _, _, .nil => .nil
  | _, _, .cons h r => .cons (h.same s) (r.same s)
end
theorem dhAll_ints (H : Hp) : ∀ ns : List Int, DhAll H (ns.map V.int) (ns.map PyData.int)
  | [] => .nil
  | _ :: r => .cons (.int _) (dhAll_ints H r)
theorem DhAll.len {H : Hp} : ∀ {vs : List V} {ds : List PyData}, DhAll H vs ds → vs.length = ds.length
  | _, _, .nil => rfl
  | _, _, .cons _ r => congrArg (· + 1) r.len
theorem DhAll.get {H : Hp} : ∀ {vs : List V} {ds : List PyData} {i : Nat} {v : V}, DhAll H vs ds → vs[i]? = some v → ∃ d, ds[i]? = some d ∧ Dh H v d
  | _, _, _, _, .nil, e => by simp at e
  | _, _, 0, _, .cons h _, e => ⟨_, rfl, by
    have e2 := Option.some.inj e
    rw [← e2]
    exact h⟩
  | _, _, i + 1, _, .cons _ r, e => r.get (i := i) e
theorem DhAll.snoc {H : Hp} : ∀ {vs : List V} {ds : List PyData} {v : V} {d : PyData}, DhAll H vs ds → Dh H v d → DhAll H (vs ++ [v]) (ds ++ [d])
  | _, _, _, _, .nil, h => .cons h .nil
  | _, _, _, _, .cons h r, h2 => .cons h (r.snoc h2)
/-- None or a number -/
def oV : Option Int → V
  | none => .non
  | some i => .int i
def dO : Option Int → PyData
  | none => .none
  | some i => .int i
theorem dh_o (H : Hp) : ∀ o : Option Int, Dh H (oV o) (dO o)
  | none => .non
  | some i => .int i
/-! ### what a ladder tells: the mirror -/
/-- what stands on a level -/
def levL (w : Int) (l : Nat) (xs : List Int) : List Int := thinF (w ^ l) (fun k => xs.getD k 0) xs.length
def belowO (xs : List Int) (n : Int) : Option Int := (xs.filter fun x => decide (x < n)).getLast?
def aboveO (xs : List Int) (n : Int) : Option Int := (xs.filter fun x => decide (n < x)).head?
/-- n stands on the level l, the lesser ones of xs being there -/
def onLev (w : Int) (xs : List Int) (n : Int) (l : Nat) : Bool := match belowO xs n with
  | none => true
  | some b => decide (b / w ^ l < n / w ^ l)
/-- who else would stand there for it -/
def mateO (w : Int) (xs : List Int) (n : Int) (l : Nat) : Option Int := match aboveO xs n with
  | none => none
  | some g => if g / w ^ l = n / w ^ l then some g else none
def dCh (l : Nat) (a b : Option Int) : PyData := .tuple [.int (l : Int), dO a, dO b]
def chPut (w : Int) (h : Nat) (xs : List Int) (n : Int) : List PyData := ((List.range (h + 1)).filter (onLev w xs n)).map fun l => dCh l (some n) (mateO w xs n l)
def chTake (w : Int) (h : Nat) (xs : List Int) (n : Int) : List PyData := ((List.range (h + 1)).filter (onLev w xs n)).map fun l => dCh l (mateO w xs n l) (some n)
def insR (n : Int) (xs : List Int) : List Int := (xs.filter fun x => decide (x < n)) ++ n :: xs.filter fun x => decide (n < x)
structure RowOk (w : Int) (h : Nat) (xs : List Int) : Prop where
  w2 : 2 ≤ w
  w9 : w ≤ 9
  h1 : 1 ≤ h
  h12 : h ≤ 12
  rise : xs.Pairwise (· < ·)
  lo : ∀ x ∈ xs, 0 ≤ x
  hi : ∀ x ∈ xs, x < w ^ h
theorem mem_insR {n x : Int} {xs : List Int} : x ∈ insR n xs ↔ x = n ∨ (x ∈ xs ∧ x ≠ n) := by
  unfold insR
  rw [List.mem_append, List.mem_cons, List.mem_filter, List.mem_filter, decide_eq_true_iff, decide_eq_true_iff]
  constructor
  · rintro (⟨h1, h2⟩ | h | ⟨h1, h2⟩)
    · exact .inr ⟨h1, by omega⟩
    · exact .inl h
    · exact .inr ⟨h1, by omega⟩
  · rintro (h | ⟨h1, h2⟩)
    · exact .inr (.inl h)
    · by_cases c : x < n
      · exact .inl ⟨h1, c⟩
      · exact .inr (.inr ⟨h1, by omega⟩)
theorem insR_rise {n : Int} {xs : List Int} (h : xs.Pairwise (· < ·)) : (insR n xs).Pairwise (· < ·) := by
  unfold insR
  rw [List.pairwise_append, List.pairwise_cons]
  refine ⟨h.filter _, ⟨fun y hy => of_decide_eq_true (List.mem_filter.mp hy).2, h.filter _⟩, fun a ha b hb => ?_⟩
  have a1 : a < n := of_decide_eq_true (List.mem_filter.mp ha).2
  rcases List.mem_cons.mp hb with e | hb
  · omega
  · have b1 : n < b := of_decide_eq_true (List.mem_filter.mp hb).2
    omega
theorem RowOk.ins {w : Int} {h : Nat} {xs : List Int} {n : Int} (o : RowOk w h xs) (h0 : 0 ≤ n) (h1 : n < w ^ h) : RowOk w h (insR n xs) :=
  ⟨o.w2, o.w9, o.h1, o.h12, insR_rise o.rise, fun x hx => by
    rcases mem_insR.mp hx with e | ⟨hx, _⟩
    · omega
    · exact o.lo x hx, fun x hx => by
    rcases mem_insR.mp hx with e | ⟨hx, _⟩
    · omega
    · exact o.hi x hx⟩
theorem insR_perm {n : Int} {xs : List Int} (h : n ∉ xs) : (insR n xs).Perm (n :: xs) := by
  unfold insR
  have h1 : (xs.filter fun x => decide (n < x)) = xs.filter fun x => !decide (x < n) := List.filter_congr fun x hx => by
    have : x ≠ n := fun e => h (e ▸ hx)
    by_cases c : x < n
    · rw [decide_eq_true c, decide_eq_false (by omega)]
      rfl
    · rw [decide_eq_false c, decide_eq_true (by omega)]
      rfl
  rw [h1]
  exact List.perm_middle.trans (List.Perm.cons n (List.filter_append_perm _ _))
theorem insR_len {n : Int} {xs : List Int} (h : n ∉ xs) : (insR n xs).length = xs.length + 1 := (insR_perm h).length_eq
def remR (n : Int) (xs : List Int) : List Int := xs.filter fun x => !decide (x = n)
theorem mem_remR {n x : Int} {xs : List Int} : x ∈ remR n xs ↔ x ∈ xs ∧ x ≠ n := by
  unfold remR
  rw [List.mem_filter, Bool.not_eq_true', decide_eq_false_iff_not]
theorem RowOk.rem {w : Int} {h : Nat} {xs : List Int} {n : Int} (o : RowOk w h xs) : RowOk w h (remR n xs) :=
  ⟨o.w2, o.w9, o.h1, o.h12, o.rise.filter _, fun x hx => o.lo x (mem_remR.mp hx).1, fun x hx => o.hi x (mem_remR.mp hx).1⟩
theorem remR_len (n : Int) (xs : List Int) : (remR n xs).length ≤ xs.length := List.length_filter_le _ _
/-! ### the program's ladder, as far as a law asks -/
def methods : List Str := ["put", "take", "has", "row", "level", "ahead", "trail", "below", "above", "place", "at", "way", "stretch", "counted"]
structure Rep (K : PySem.W.Frag) (C : Addr) where
  Lad : Hp → Addr → Int → Nat → List Int → (Addr → Prop) → Prop
  ins : ∀ {H : Hp} {p : Addr} {w : Int} {h : Nat} {xs : List Int} {F : Addr → Prop}, Lad H p w h xs F → ∃ (dx : Addr) (fs : List (Str × V)), H p = some (.ins C dx fs) ∧ fs.lookup ("width" : Str) = some (.int w) ∧ fs.lookup ("high" : Str) = some (.int (h : Int)) ∧
    fs.lookup ("limit" : Str) = some (.int (w ^ h)) ∧ fs.lookup ("many" : Str) = some (.int (xs.length : Int)) ∧ ∀ m ∈ methods, fs.lookup m = none
  ok : ∀ {H : Hp} {p : Addr} {w : Int} {h : Nat} {xs : List Int} {F : Addr → Prop}, Lad H p w h xs F → RowOk w h xs
  stay : ∀ {H H' : Hp} {p : Addr} {w : Int} {h : Nat} {xs : List Int} {F : Addr → Prop}, Lad H p w h xs F → (∀ b o, F b → H b = some o → H' b = some o) → Lad H' p w h xs F
  there : ∀ {H : Hp} {p : Addr} {w : Int} {h : Nat} {xs : List Int} {F : Addr → Prop}, Lad H p w h xs F → ∀ b, F b → ∃ o, H b = some o
theorem Rep.same {K : PySem.W.Frag} {C : Addr} (R : Rep K C) {H H' : Hp} {p : Addr} {w : Int} {h : Nat} {xs : List Int} {F : Addr → Prop} (l : R.Lad H p w h xs F) (s : Same H H') : R.Lad H' p w h xs F := R.stay l fun b o _ e => s b o e
/-- the law's own view G of the heap H, beside the ladder at p -/
structure View {K : PySem.W.Frag} {C : Addr} (R : Rep K C) (G H : Hp) (p : Addr) (w : Int) (h : Nat) (xs : List Int) (F : Addr → Prop) : Prop where
  lad : R.Lad H p w h xs F
  sub : Same G H
  out : ∀ b, F b → G b = none
section
variable {K : PySem.W.Frag} {C : Addr} {R : Rep K C} {G H H' : Hp} {p : Addr} {w : Int} {h : Nat} {xs : List Int} {F : Addr → Prop}
/-- what is new to the heap is none of the ladder's -/
theorem View.notF (v : View R G H p w h xs F) {b : Addr} (n : H b = none) : ¬ F b := fun f => by
  obtain ⟨o, e⟩ := R.there v.lad b f
  rw [n] at e
  cases e
/-- a new object of the law's own -/
theorem View.new (v : View R G H p w h xs F) {b : Addr} {o : HO} (n : H b = none) : View R (upd G b o) (upd H b o) p w h xs F :=
  ⟨R.same v.lad (same_upd n), fun c u e => by
    by_cases hc : c = b
    · subst hc
      rw [upd_same] at e ⊢
      exact e
    · rw [upd_ne hc] at e ⊢
      exact v.sub c u e, fun c f => by
    have hc : c ≠ b := fun z => v.notF n (z ▸ f)
    rw [upd_ne hc]
    exact v.out c f⟩
/-- an object of the law's own is changed -/
theorem View.mut (v : View R G H p w h xs F) {b : Addr} {o u : HO} (e : G b = some u) : View R (upd G b o) (upd H b o) p w h xs F := by
  have nf : ∀ c, F c → c ≠ b := fun c f z => by
    have q := v.out c f
    rw [z, e] at q
    cases q
  refine ⟨R.stay v.lad fun c x f hx => by rw [upd_ne (nf c f)]; exact hx, fun c x hx => ?_, fun c f => by rw [upd_ne (nf c f)]; exact v.out c f⟩
  by_cases hc : c = b
  · subst hc
    rw [upd_same] at hx ⊢
    exact hx
  · rw [upd_ne hc] at hx ⊢
    exact v.sub c x hx
/-- the heap has grown: what of it is seen -/
theorem View.grow (v : View R G H p w h xs F) (s : Same H H') : View R G H' p w h xs F := ⟨R.same v.lad s, v.sub.trans s, v.out⟩
/-- the heap has grown by a new list, which the law keeps -/
theorem View.keep (v : View R G H p w h xs F) (s : Same H H') {b : Addr} {o : HO} (n : H b = none) (e : H' b = some o) : View R (upd G b o) H' p w h xs F :=
  ⟨R.same v.lad s, fun c u hu => by
    by_cases hc : c = b
    · subst hc
      rw [upd_same] at hu
      rw [← hu]
      exact e
    · rw [upd_ne hc] at hu
      exact s c u (v.sub c u hu), fun c f => by
    have hc : c ≠ b := fun z => v.notF n (z ▸ f)
    rw [upd_ne hc]
    exact v.out c f⟩
end
theorem ch_shape (l : Nat) (a b : Option Int) : (dCh l a b).canLay0 = true ∧ (dCh l a b).depth ≤ 1 := by
  cases a <;> cases b <;> exact ⟨rfl, Nat.le_refl _⟩
theorem shaped_chPut (w : Int) (h : Nat) (xs : List Int) (n : Int) : SeqAt.shaped (.list (chPut w h xs n)) = true := shaped_list 1 (fun d hd => by
  obtain ⟨l, _, rfl⟩ := List.mem_map.mp hd
  exact ch_shape _ _ _) (by decide)
theorem shaped_chTake (w : Int) (h : Nat) (xs : List Int) (n : Int) : SeqAt.shaped (.list (chTake w h xs n)) = true := shaped_list 1 (fun d hd => by
  obtain ⟨l, _, rfl⟩ := List.mem_map.mp hd
  exact ch_shape _ _ _) (by decide)
theorem dh_oV {H : Hp} {v : V} : ∀ {o : Option Int}, Dh H v (dO o) → v = oV o
  | none, .non => rfl
  | some _, .int _ => rfl
theorem dh_ch {H : Hp} {v : V} {l : Nat} {a b : Option Int} (h : Dh H v (dCh l a b)) : ∃ t, v = .ref t ∧ H t = some (.tup [.int (l : Int), oV a, oV b]) := by
  unfold dCh at h
  cases h with
  | tup e r =>
    cases r with
    | cons h1 r =>
      cases r with
      | cons h2 r =>
        cases r with
        | cons h3 r =>
          cases r
          cases h1
          rw [dh_oV h2, dh_oV h3] at e
          exact ⟨_, rfl, e⟩
theorem dhAll_ch {H : Hp} (l : Nat) (a b : Option Int) : DhAll H [.int (l : Int), oV a, oV b] [.int (l : Int), dO a, dO b] := .cons (.int _) (.cons (dh_o H a) (.cons (dh_o H b) .nil))
/-- the empty view -/
theorem View.nothing {K : PySem.W.Frag} {C : Addr} {R : Rep K C} {H : Hp} {p : Addr} {w : Int} {h : Nat} {xs : List Int} {F : Addr → Prop} (l : R.Lad H p w h xs F) : View R (fun _ => none) H p w h xs F := ⟨l, (fun _ _ e => nomatch e), fun _ _ => rfl⟩
/-! ### places in a rising row -/
theorem getD_eq {xs : List Int} {i : Nat} (h : i < xs.length) : xs.getD i 0 = xs[i] := by
  rw [List.getD_eq_getElem?_getD, List.getElem?_eq_getElem h]
  rfl
theorem map_at {xs : List Int} {i : Nat} (h : i < xs.length) : (xs.map V.int)[i]? = some (.int (xs.getD i 0)) := by
  rw [List.getElem?_map, List.getElem?_eq_getElem h, getD_eq h]
  rfl
/-- how many are less -/
def placeN (xs : List Int) (y : Int) : Nat := (xs.filter fun x => decide (x < y)).length
theorem filter_take_drop {α : Type} (p : α → Bool) (xs : List α) (i : Nat) (h1 : ∀ x ∈ xs.take i, p x = false) (h2 : ∀ x ∈ xs.drop i, p x = true) : xs.filter p = xs.drop i := by
  have e := List.take_append_drop i xs
  have h3 : (xs.take i).filter p = [] := List.filter_eq_nil_iff.mpr fun x hx => by rw [h1 x hx]; decide
  have h4 : (xs.drop i).filter p = xs.drop i := List.filter_eq_self.mpr h2
  calc xs.filter p = ((xs.take i) ++ xs.drop i).filter p := by rw [e]
    _ = xs.drop i := by rw [List.filter_append, h3, h4, List.nil_append]
theorem filter_take {α : Type} (p : α → Bool) (xs : List α) (i : Nat) (h1 : ∀ x ∈ xs.take i, p x = true) (h2 : ∀ x ∈ xs.drop i, p x = false) : xs.filter p = xs.take i := by
  have e := List.take_append_drop i xs
  have h3 : (xs.drop i).filter p = [] := List.filter_eq_nil_iff.mpr fun x hx => by rw [h2 x hx]; decide
  have h4 : (xs.take i).filter p = xs.take i := List.filter_eq_self.mpr h1
  calc xs.filter p = ((xs.take i) ++ xs.drop i).filter p := by rw [e]
    _ = xs.take i := by rw [List.filter_append, h3, h4, List.append_nil]
theorem mem_take_at {α : Type} {xs : List α} {i : Nat} {x : α} (h : x ∈ xs.take i) : ∃ j, ∃ hj : j < xs.length, j < i ∧ xs[j] = x := by
  obtain ⟨j, hj, e⟩ := List.mem_iff_getElem.mp h
  rw [List.length_take] at hj
  refine ⟨j, by omega, by omega, ?_⟩
  rw [← e, List.getElem_take]
theorem mem_drop_at {α : Type} {xs : List α} {i : Nat} {x : α} (h : x ∈ xs.drop i) : ∃ j, ∃ hj : j < xs.length, i ≤ j ∧ xs[j] = x := by
  obtain ⟨j, hj, e⟩ := List.mem_iff_getElem.mp h
  rw [List.length_drop] at hj
  refine ⟨i + j, by omega, by omega, ?_⟩
  rw [← e, List.getElem_drop]
theorem filt_lt {xs : List Int} (r : xs.Pairwise (· < ·)) {i : Nat} (h : i < xs.length) : (xs.filter fun x => decide (x < xs.getD i 0)) = xs.take i := by
  refine filter_take _ _ _ (fun x hx => ?_) (fun x hx => ?_)
  · obtain ⟨j, hj, l, rfl⟩ := mem_take_at hx
    have := rise_getD r l h
    rw [getD_eq hj] at this
    exact decide_eq_true this
  · obtain ⟨j, hj, l, rfl⟩ := mem_drop_at hx
    refine decide_eq_false ?_
    by_cases e : i = j
    · subst e
      rw [getD_eq hj]
      omega
    · have := rise_getD r (show i < j by omega) hj
      rw [getD_eq hj] at this
      omega
theorem placeN_at {xs : List Int} (r : xs.Pairwise (· < ·)) {i : Nat} (h : i < xs.length) : placeN xs (xs.getD i 0) = i := by
  unfold placeN
  rw [filt_lt r h, List.length_take]
  omega
theorem place_gap (a b : Int) (h : a ≤ b) : ∀ xs : List Int, placeN xs b = placeN xs a + (xs.filter fun x => decide (a ≤ x) && decide (x < b)).length
  | [] => rfl
  | x :: xs => by
    have ih := place_gap a b h xs
    unfold placeN at ih ⊢
    rw [List.filter_cons, List.filter_cons, List.filter_cons]
    by_cases c1 : x < a
    · rw [decide_eq_true (show x < b by omega), decide_eq_true c1, decide_eq_false (show ¬ a ≤ x by omega)]
      simp only [if_true, Bool.false_and, List.length_cons, Bool.false_eq_true, if_false]
      omega
    · by_cases c2 : x < b
      · rw [decide_eq_true c2, decide_eq_false c1, decide_eq_true (show a ≤ x by omega)]
        simp only [if_true, Bool.true_and, List.length_cons, Bool.false_eq_true, if_false]
        omega
      · rw [decide_eq_false c2, decide_eq_false c1, decide_eq_true (show a ≤ x by omega)]
        simp only [Bool.true_and, Bool.false_eq_true, if_false]
        exact ih
theorem place_rest (a : Int) : ∀ xs : List Int, xs.length = placeN xs a + (xs.filter fun x => decide (a ≤ x)).length
  | [] => rfl
  | x :: xs => by
    have ih := place_rest a xs
    unfold placeN at ih ⊢
    rw [List.filter_cons, List.filter_cons, List.length_cons]
    by_cases c1 : x < a
    · rw [decide_eq_true c1, decide_eq_false (show ¬ a ≤ x by omega)]
      simp only [if_true, List.length_cons, Bool.false_eq_true, if_false]
      omega
    · rw [decide_eq_false c1, decide_eq_true (show a ≤ x by omega)]
      simp only [if_true, List.length_cons, Bool.false_eq_true, if_false]
      omega
/-! ### ahead -/
def nextO (w : Int) (l : Nat) (xs : List Int) (n : Int) : Option Int := ((levL w l xs).filter fun x => decide (n < x)).head?
def gapN (w : Int) (l : Nat) (xs : List Int) (n : Int) : Nat := (xs.filter fun x => decide (n ≤ x) && match nextO w l xs n with | none => true | some b => decide (x < b)).length
/-- the places of those that stand on the level -/
def plac (s : Int) (xs : List Int) : List Nat := (List.range xs.length).filter (thinP s fun k => xs.getD k 0)
theorem levL_plac (w : Int) (l : Nat) (xs : List Int) : levL w l xs = (plac (w ^ l) xs).map fun k => xs.getD k 0 := rfl
theorem plac_rise (s : Int) (xs : List Int) : (plac s xs).Pairwise (· < ·) := List.pairwise_lt_range.filter _
theorem plac_lt {s : Int} {xs : List Int} {k : Nat} (h : k ∈ plac s xs) : k < xs.length := List.mem_range.mp (List.mem_filter.mp h).1
theorem filt_gt {ps : List Nat} (r : ps.Pairwise (· < ·)) {k : Nat} (h : k < ps.length) : (ps.filter fun x => decide (ps[k] < x)) = ps.drop (k + 1) := by
  have rr := List.pairwise_iff_getElem.mp r
  refine filter_take_drop _ _ _ (fun x hx => ?_) (fun x hx => ?_)
  · obtain ⟨j, hj, l, rfl⟩ := mem_take_at hx
    refine decide_eq_false ?_
    by_cases e : j = k
    · subst e
      omega
    · have := rr j k hj h (by omega)
      omega
  · obtain ⟨j, hj, l, rfl⟩ := mem_drop_at hx
    exact decide_eq_true (rr k j h hj (by omega))
theorem next_at {w : Int} {l : Nat} {xs : List Int} (r : xs.Pairwise (· < ·)) {k : Nat} (h : k < (plac (w ^ l) xs).length) : nextO w l xs (xs.getD (plac (w ^ l) xs)[k] 0) = ((plac (w ^ l) xs)[k + 1]?).map fun j => xs.getD j 0 := by
  unfold nextO
  rw [levL_plac, List.filter_map]
  have e : ((plac (w ^ l) xs).filter ((fun x => decide (xs.getD (plac (w ^ l) xs)[k] 0 < x)) ∘ fun k => xs.getD k 0)) = (plac (w ^ l) xs).filter fun x => decide ((plac (w ^ l) xs)[k] < x) := by
    refine List.filter_congr fun j hj => ?_
    have lj := plac_lt hj
    have lk := plac_lt (List.getElem_mem h)
    show decide (xs.getD (plac (w ^ l) xs)[k] 0 < xs.getD j 0) = decide ((plac (w ^ l) xs)[k] < j)
    by_cases c : (plac (w ^ l) xs)[k] < j
    · rw [decide_eq_true c, decide_eq_true (rise_getD r c lj)]
    · rw [decide_eq_false c]
      refine decide_eq_false ?_
      by_cases e : j = (plac (w ^ l) xs)[k]
      · rw [← e]
        omega
      · have := rise_getD r (show j < (plac (w ^ l) xs)[k] by omega) lk
        omega
  rw [e, filt_gt (plac_rise _ _) h, List.head?_map, List.head?_drop]
theorem gap_at {w : Int} {l : Nat} {xs : List Int} (r : xs.Pairwise (· < ·)) {k : Nat} (h : k < (plac (w ^ l) xs).length) : (gapN w l xs (xs.getD (plac (w ^ l) xs)[k] 0) : Int) = (match (plac (w ^ l) xs)[k + 1]? with | none => (xs.length : Int) | some j => (j : Int)) - ((plac (w ^ l) xs)[k] : Int) := by
  have lk := plac_lt (List.getElem_mem h)
  unfold gapN
  rw [next_at r h]
  cases hj : (plac (w ^ l) xs)[k + 1]? with
  | none =>
    have e : (xs.filter fun x => decide (xs.getD (plac (w ^ l) xs)[k] 0 ≤ x) && true) = xs.filter fun x => decide (xs.getD (plac (w ^ l) xs)[k] 0 ≤ x) := List.filter_congr fun x _ => Bool.and_true _
    have z := place_rest (xs.getD (plac (w ^ l) xs)[k] 0) xs
    rw [placeN_at r lk] at z
    show ((xs.filter fun x => decide (xs.getD (plac (w ^ l) xs)[k] 0 ≤ x) && true).length : Int) = (xs.length : Int) - ((plac (w ^ l) xs)[k] : Int)
    rw [e]
    omega
  | some j =>
    obtain ⟨h2, e2⟩ := List.getElem?_eq_some_iff.mp hj
    have lj := plac_lt (List.getElem_mem h2)
    have lt := (List.pairwise_iff_getElem.mp (plac_rise (w ^ l) xs)) k (k + 1) h h2 (by omega)
    rw [e2] at lj lt
    have z := place_gap (xs.getD (plac (w ^ l) xs)[k] 0) (xs.getD j 0) (Int.le_of_lt (rise_getD r lt lj)) xs
    rw [placeN_at r lk, placeN_at r lj] at z
    show ((xs.filter fun x => decide (xs.getD (plac (w ^ l) xs)[k] 0 ≤ x) && decide (x < xs.getD j 0)).length : Int) = (j : Int) - ((plac (w ^ l) xs)[k] : Int)
    omega
theorem due_eq {s : Int} (hs : 0 < s) {f : Nat → Int} {m : Nat} (hf : ∀ j, j + 1 < m → f j ≤ f (j + 1)) : (List.range m).filter (dueQ s f) = (List.range m).filter (thinP s f) := by
  refine List.filter_congr fun k hk => ?_
  have hk' := List.mem_range.mp hk
  unfold dueQ thinP
  cases k with
  | zero => rfl
  | succ j =>
    have d1 : decide (V.int ((j + 1 : Nat) : Int) = V.int 0) = false := decide_eq_false fun z => by
      have := V.int.inj z
      omega
    have d2 : decide (j + 1 = 0) = false := rfl
    rw [d1, d2, Bool.false_or, Bool.false_or]
    show decide (f j / s < f (j + 1) / s) = !decide (f j / s = f (j + 1) / s)
    have le : f j / s ≤ f (j + 1) / s := Int.ediv_le_ediv hs (hf j hk')
    by_cases e : f j / s = f (j + 1) / s
    · rw [decide_eq_true e, decide_eq_false (by omega)]
      rfl
    · rw [decide_eq_false e, decide_eq_true (by omega)]
      rfl
/-- natural numbers as values -/
def nV (ps : List Nat) : List V := ps.map fun k : Nat => V.int (k : Int)
theorem nV_len (ps : List Nat) : (nV ps).length = ps.length := List.length_map ..
theorem nV_at {ps : List Nat} {i : Nat} (h : i < ps.length) : (nV ps)[i]? = some (.int (ps[i] : Int)) := by
  unfold nV
  rw [List.getElem?_map, List.getElem?_eq_getElem h]
  rfl
theorem levL_mem {w : Int} {l : Nat} {xs : List Int} {n : Int} (h : n ∈ levL w l xs) : n ∈ xs := by
  rw [levL_plac] at h
  obtain ⟨k, hk, rfl⟩ := List.mem_map.mp h
  have lk := plac_lt hk
  rw [getD_eq lk]
  exact List.getElem_mem lk
/-! ### the trail -/
def goR (ls : List Int) (n a : Int) : List Int := ls.filter fun x => decide (x ≤ n) && decide (a < x)
/-- the places from a on, on the level l and beneath it -/
def trailC (w : Int) (xs : List Int) (n : Int) : Nat → Int → List (Nat × Int)
  | 0, a => (0, a) :: (goR (levL w 0 xs) n a).map fun x => (0, x)
  | l + 1, a => (l + 1, a) :: (goR (levL w (l + 1) xs) n a).map (fun x => (l + 1, x)) ++ trailC w xs n l ((goR (levL w (l + 1) xs) n a).getLast?.getD a)
def downT (w : Int) (xs : List Int) (n : Int) (l : Nat) (a : Int) : List (Nat × Int) := match l with
  | 0 => []
  | l + 1 => trailC w xs n l a
def trailR (w : Int) (h : Nat) (xs : List Int) (n : Int) : List (Nat × Int) := match xs with
  | [] => []
  | x :: _ => if x ≤ n then trailC w xs n h x else []
def stD (s : Nat × Int) : PyData := .tuple [.int (s.1 : Int), .int s.2]
theorem levL_rise {xs : List Int} (r : xs.Pairwise (· < ·)) (w : Int) (l : Nat) : (levL w l xs).Pairwise (· < ·) := by
  rw [levL_plac, List.pairwise_map]
  refine (plac_rise (w ^ l) xs).imp_of_mem fun ha hb h => ?_
  exact rise_getD r h (plac_lt hb)
theorem goR_none {ls : List Int} {n a : Int} (h : (ls.filter fun x => decide (a < x)).head? = none) : goR ls n a = [] := by
  unfold goR
  rw [← List.filter_filter, List.head?_eq_none_iff.mp h]
  rfl
theorem goR_some {ls : List Int} (r : ls.Pairwise (· < ·)) {n a b : Int} (h : (ls.filter fun x => decide (a < x)).head? = some b) : goR ls n a = if b ≤ n then b :: goR ls n b else [] := by
  obtain ⟨rest, e⟩ : ∃ rest, (ls.filter fun x => decide (a < x)) = b :: rest := by
    cases hf : (ls.filter fun x => decide (a < x)) with
    | nil =>
      rw [hf] at h
      cases h
    | cons c rest =>
      rw [hf] at h
      cases h
      exact ⟨rest, rfl⟩
  have ab : a < b := by
    have m : b ∈ (ls.filter fun x => decide (a < x)) := by
      rw [e]
      exact List.mem_cons_self
    exact of_decide_eq_true (List.mem_filter.mp m).2
  have rr : (b :: rest).Pairwise (· < ·) := by
    rw [← e]
    exact r.filter _
  have gr : ∀ x ∈ rest, b < x := (List.pairwise_cons.mp rr).1
  have e2 : (ls.filter fun x => decide (b < x)) = rest := by
    have z : ((ls.filter fun x => decide (a < x)).filter fun x => decide (b < x)) = ls.filter fun x => decide (b < x) := by
      rw [List.filter_filter]
      refine List.filter_congr fun x _ => ?_
      by_cases c : b < x
      · rw [decide_eq_true c, decide_eq_true (show a < x by omega)]
        rfl
      · rw [decide_eq_false c]
        rfl
    rw [← z, e, List.filter_cons, if_neg (by simp), List.filter_eq_self]
    exact fun x hx => decide_eq_true (gr x hx)
  unfold goR
  rw [← List.filter_filter, ← List.filter_filter, e, e2, List.filter_cons]
  by_cases c : b ≤ n
  · rw [if_pos (decide_eq_true c), if_pos c]
  · rw [if_neg (by rw [decide_eq_false c]; decide), if_neg c]
    refine List.filter_eq_nil_iff.mpr fun x hx => ?_
    have := gr x hx
    rw [decide_eq_false (by omega)]
    decide
theorem trailC_step {w : Int} {xs : List Int} (r : xs.Pairwise (· < ·)) (n : Int) (l : Nat) (a : Int) : trailC w xs n l a = (l, a) :: (match nextO w l xs a with
    | none => downT w xs n l a
    | some b => if b ≤ n then trailC w xs n l b else downT w xs n l a) := by
  unfold nextO
  cases h : ((levL w l xs).filter fun x => decide (a < x)).head? with
  | none =>
    have g := goR_none (n := n) h
    cases l with
    | zero =>
      unfold trailC
      rw [g]
      rfl
    | succ l =>
      show (l + 1, a) :: (goR (levL w (l + 1) xs) n a).map (fun x => (l + 1, x)) ++ trailC w xs n l ((goR (levL w (l + 1) xs) n a).getLast?.getD a) = _
      rw [g]
      rfl
  | some b =>
    have g := goR_some (n := n) (levL_rise r w l) h
    show trailC w xs n l a = (l, a) :: if b ≤ n then trailC w xs n l b else downT w xs n l a
    by_cases c : b ≤ n
    · rw [if_pos c] at g ⊢
      cases l with
      | zero =>
        show (0, a) :: (goR (levL w 0 xs) n a).map (fun x => (0, x)) = _
        rw [g]
        rfl
      | succ l =>
        show (l + 1, a) :: (goR (levL w (l + 1) xs) n a).map (fun x => (l + 1, x)) ++ trailC w xs n l ((goR (levL w (l + 1) xs) n a).getLast?.getD a) = (l + 1, a) :: ((l + 1, b) :: (goR (levL w (l + 1) xs) n b).map (fun x => (l + 1, x)) ++ trailC w xs n l ((goR (levL w (l + 1) xs) n b).getLast?.getD b))
        rw [g]
        have e : (b :: goR (levL w (l + 1) xs) n b).getLast?.getD a = (goR (levL w (l + 1) xs) n b).getLast?.getD b := by
          rw [List.getLast?_cons]
          rfl
        rw [e]
        rfl
    · rw [if_neg c] at g ⊢
      cases l with
      | zero =>
        show (0, a) :: (goR (levL w 0 xs) n a).map (fun x => (0, x)) = _
        rw [g]
        rfl
      | succ l =>
        show (l + 1, a) :: (goR (levL w (l + 1) xs) n a).map (fun x => (l + 1, x)) ++ trailC w xs n l ((goR (levL w (l + 1) xs) n a).getLast?.getD a) = _
        rw [g]
        rfl
/-- the next one on a level, by the places -/
theorem nextO_idx {w : Int} {l : Nat} {xs : List Int} (r : xs.Pairwise (· < ·)) {i : Nat} (h : i < xs.length) : nextO w l xs (xs.getD i 0) = (((plac (w ^ l) xs).filter fun k => decide (i < k)).head?).map fun j => xs.getD j 0 := by
  unfold nextO
  rw [levL_plac, List.filter_map]
  have e : ((plac (w ^ l) xs).filter ((fun x => decide (xs.getD i 0 < x)) ∘ fun k => xs.getD k 0)) = (plac (w ^ l) xs).filter fun k => decide (i < k) := by
    refine List.filter_congr fun j hj => ?_
    have lj := plac_lt hj
    show decide (xs.getD i 0 < xs.getD j 0) = decide (i < j)
    by_cases c : i < j
    · rw [decide_eq_true c, decide_eq_true (rise_getD r c lj)]
    · rw [decide_eq_false c]
      refine decide_eq_false ?_
      by_cases e : j = i
      · rw [e]
        omega
      · have := rise_getD r (show j < i by omega) h
        omega
  rw [e, List.head?_map]
/-- the next place whose block is not that of the one ahead of it -/
theorem plac_next {s : Int} {xs : List Int} {i j : Nat} (hij : i < j) (hj : j ≤ xs.length) (h1 : ∀ k, i < k → k < j → xs.getD k 0 / s = xs.getD (k - 1) 0 / s) (h2 : j < xs.length → xs.getD j 0 / s ≠ xs.getD (j - 1) 0 / s) :
    ((plac s xs).filter fun k => decide (i < k)).head? = if j < xs.length then some j else none := by
  unfold plac
  rw [List.filter_filter, List.head?_filter]
  by_cases c : j < xs.length
  · rw [if_pos c, List.find?_range_eq_some]
    refine ⟨?_, List.mem_range.mpr c, fun k hk => ?_⟩
    · have e1 : thinP s (fun k => xs.getD k 0) j = true := by
        unfold thinP
        rw [decide_eq_false (show ¬ j = 0 by omega), Bool.false_or, Bool.not_eq_true', decide_eq_false_iff_not]
        exact fun z => h2 c z.symm
      rw [e1, decide_eq_true hij]
      rfl
    · by_cases d : i < k
      · have e1 : thinP s (fun k => xs.getD k 0) k = false := by
          unfold thinP
          rw [decide_eq_false (show ¬ k = 0 by omega), decide_eq_true (h1 k d hk).symm]
          rfl
        rw [e1, Bool.and_false]
        rfl
      · rw [decide_eq_false d]
        rfl
  · rw [if_neg c, List.find?_eq_none]
    intro k hk
    have hk2 := List.mem_range.mp hk
    by_cases d : i < k
    · have e1 : thinP s (fun k => xs.getD k 0) k = false := by
        unfold thinP
        rw [decide_eq_false (show ¬ k = 0 by omega), decide_eq_true (h1 k d (by omega)).symm]
        rfl
      rw [e1, Bool.and_false]
      decide
    · rw [decide_eq_false d, Bool.false_and]
      decide
/-! ### the nearest -/
def belowEq (xs : List Int) (n : Int) : Option Int := (xs.filter fun x => decide (x ≤ n)).getLast?
def aboveEq (xs : List Int) (n : Int) : Option Int := (xs.filter fun x => decide (n ≤ x)).head?
theorem shaped_trail (ts : List (Nat × Int)) : SeqAt.shaped (.list (ts.map stD)) = true := shaped_list 1 (fun d hd => by
  obtain ⟨s, _, rfl⟩ := List.mem_map.mp hd
  exact ⟨rfl, Nat.le_refl _⟩) (by decide)
theorem dh_st {H : Hp} {v : V} {s : Nat × Int} (h : Dh H v (stD s)) : ∃ t, v = .ref t ∧ H t = some (.tup [.int (s.1 : Int), .int s.2]) := by
  unfold stD at h
  cases h with
  | tup e r =>
    cases r with
    | cons h1 r =>
      cases r with
      | cons h2 r =>
        cases r
        cases h1
        cases h2
        exact ⟨_, rfl, e⟩
/-! ### comprehensions over a list from behind -/
theorem lc_behind {K : PySem.W.Frag} {a : Addr} {xs : List V} {g : TG} {tt : TT} {te : TE} {vs : List Nat} {σ : L2.St} {H1 : Hp} {D : Addr} {Qd : Hp → Prop} (Pv : Nat → Hp → Prop) (start : Pv 0 (upd H1 D (.lst [])))
    (still : ∀ i H, Pv i H → SqL K H a xs)
    (turn : ∀ i x H, i < xs.length → xs[xs.length - 1 - i]? = some x → Pv i H → g x (wipe σ vs) H fun σ2 H2 => wipe σ2 vs = wipe σ vs ∧ tt σ2 H2 fun b H3 =>
      if b = true then te σ2 H3 fun y H4 => ∃ acc, H4 D = some (.lst acc) ∧ acc.length < sizeLine ∧ Pv (i + 1) (upd H4 D (.lst (acc ++ [y]))) else Pv (i + 1) H3) (fin : ∀ H, Pv xs.length H → Qd H) :
    ∃ W : Nat → Nat → Hp → Prop, (∃ m, W 0 m (upd H1 D (.lst []))) ∧ ∀ i m H, W i m H →
      ((Itv K a xs.length).stop i H ∧ Qd H) ∨ ((Itv K a xs.length).go i H ∧ ∃ Nx : Hp → Prop, (∀ H', Nx H' → ∃ m', m' < m ∧ W (i + 1) m' H') ∧ ∀ x H', (Itv K a xs.length).yld i H x H' → g x (wipe σ vs) H' fun σ2 H2 => wipe σ2 vs = wipe σ vs ∧ tt σ2 H2 fun b H3 =>
        if b = true then te σ2 H3 fun y H4 => ∃ acc, H4 D = some (.lst acc) ∧ acc.length < sizeLine ∧ Nx (upd H4 D (.lst (acc ++ [y]))) else Nx H3) := by
  refine ⟨fun i m H => Pv i H ∧ i ≤ xs.length ∧ m + i = xs.length, ⟨xs.length, start, Nat.zero_le _, rfl⟩, fun i m H hW => ?_⟩
  obtain ⟨hp, hi, hm⟩ := hW
  have hq := still i H hp
  rcases Nat.lt_or_ge i xs.length with lt | ge
  · have l2 : xs.length - 1 - i < xs.length := by omega
    exact .inr ⟨⟨lt, xs, xs[xs.length - 1 - i], hq, List.getElem?_eq_getElem l2⟩, Pv (i + 1), fun H' hp' => ⟨m - 1, by omega, hp', by omega, by omega⟩, fun x H' hy => by
      obtain ⟨rfl, fy⟩ := hy
      exact turn i x _ lt (fy xs hq) hp⟩
  · have ei : i = xs.length := by omega
    subst ei
    exact .inl ⟨Nat.le_refl _, fin H hp⟩
/-- [x for x in reversed(xs) if p(x)] over a list of ints -/
theorem el_behind {K : PySem.W.Frag} {σ : L2.St} {H : Hp} {tl te : TE} {t : TT} {a : Addr} {ns : List Int} {j : Nat} {vs : List Nat} (p : Int → Bool) (h : Evl.Ev tl σ H (.ref a)) (hx : SqL K H a (ns.map V.int)) (hz : ns.length ≤ 40000)
    (hw : ∀ x, wipe ((wipe σ vs).set j (some x)) vs = wipe σ vs) (ht : ∀ x ∈ ns, ∀ H1, Same H H1 → Evl.EvT t ((wipe σ vs).set j (some (.int x))) H1 (p x))
    (he : ∀ x ∈ ns, ∀ H1, Same H H1 → p x = true → Evl.Ev te ((wipe σ vs).set j (some (.int x))) H1 (.int x)) : Evl.EvL (tLc (iRev K (tCons tl tNil)) (gName j) t te vs) σ H ((ns.reverse.filter p).map V.int) := by
  rw [← given_ints (α := Unit) ns.reverse p V.int, List.length_reverse]
  have hl : (ns.map V.int).length = ns.length := List.length_map ..
  intro H0 e Q q
  refine h H0 e _ fun H1 e1 => ⟨a, ns.map V.int, rfl, Evl.ex_l (e.trans e1) hx, fun D hD => ?_⟩
  refine lc_behind (Evl.Cw H1 (fun k => p (ns.reverse.getD k 0)) (fun k => V.int (ns.reverse.getD k 0)) D) ⟨hD, Evl.Ex.new hD, upd_same⟩ (fun i H' c => Evl.ex_l ((e.trans e1).trans c.2.1) hx) (fun i x H' lt hi c => ?_) (fun H' c => q D H' (Evl.fresh_back e1 c.1) (e1.trans c.2.1) ?_)
  · rw [hl] at lt hi
    obtain ⟨_, rfl, m⟩ := int_at hi
    have er : ns.reverse.getD i 0 = ns.getD (ns.length - 1 - i) 0 := by
      rw [List.getD_eq_getElem?_getD, List.getD_eq_getElem?_getD, List.getElem?_reverse lt]
    refine ⟨hw _, Evl.cw_turn c (by omega) ?_ ?_⟩
    · show Evl.EvT t _ H1 (p (ns.reverse.getD i 0))
      rw [er]
      exact ht _ m H1 (e.trans e1)
    · intro hf
      show Evl.Ev te _ H1 (V.int (ns.reverse.getD i 0))
      have hf2 : p (ns.reverse.getD i 0) = true := hf
      rw [er] at hf2 ⊢
      exact he _ m H1 (e.trans e1) hf2
  · have z := c.2.2
    rw [hl] at z
    exact z
/-! ### who stands on a level, and what a deed changes there -/
theorem div_le_of {s x y : Int} (hs : 0 < s) (h : x ≤ y) : x / s ≤ y / s := Int.ediv_le_ediv hs h
/-- the least one of its block -/
def Lead (s : Int) (xs : List Int) (x : Int) : Prop := ∀ y ∈ xs, y < x → y / s ≠ x / s
theorem at_of_mem {xs : List Int} {x : Int} (h : x ∈ xs) : ∃ k, k < xs.length ∧ xs.getD k 0 = x := by
  obtain ⟨k, hk, e⟩ := List.mem_iff_getElem.mp h
  exact ⟨k, hk, by rw [getD_eq hk, e]⟩
theorem mem_at {xs : List Int} {k : Nat} (h : k < xs.length) : xs.getD k 0 ∈ xs := by
  rw [getD_eq h]
  exact List.getElem_mem h
theorem rise_idx {xs : List Int} (r : xs.Pairwise (· < ·)) {i j : Nat} (hi : i < xs.length) (hj : j < xs.length) (h : xs.getD i 0 < xs.getD j 0) : i < j := by
  rcases Nat.lt_trichotomy i j with c | c | c
  · exact c
  · subst c
    omega
  · have := rise_getD r c hi
    omega
theorem mem_lev {w : Int} {l : Nat} {xs : List Int} (hw : 2 ≤ w) (r : xs.Pairwise (· < ·)) {x : Int} : x ∈ levL w l xs ↔ x ∈ xs ∧ Lead (w ^ l) xs x := by
  have s0 := pow_pos' hw l
  rw [levL_plac, List.mem_map]
  constructor
  · rintro ⟨k, hk, rfl⟩
    have lk := plac_lt hk
    refine ⟨mem_at lk, fun y hy lt e => ?_⟩
    obtain ⟨j, hj, rfl⟩ := at_of_mem hy
    have jk := rise_idx r hj lk lt
    have tp := (List.mem_filter.mp hk).2
    unfold thinP at tp
    rw [decide_eq_false (show ¬ k = 0 by omega), Bool.false_or, Bool.not_eq_true', decide_eq_false_iff_not] at tp
    have a1 : xs.getD j 0 ≤ xs.getD (k - 1) 0 := by
      by_cases c : j = k - 1
      · rw [c]
        omega
      · exact Int.le_of_lt (rise_getD r (show j < k - 1 by omega) (by omega))
    have a2 : xs.getD (k - 1) 0 ≤ xs.getD k 0 := Int.le_of_lt (rise_getD r (by omega) lk)
    have b1 := div_le_of s0 a1
    have b2 := div_le_of s0 a2
    have tp2 : xs.getD (k - 1) 0 / w ^ l ≠ xs.getD k 0 / w ^ l := tp
    exact tp2 (by omega)
  · rintro ⟨hx, ld⟩
    obtain ⟨k, hk, rfl⟩ := at_of_mem hx
    refine ⟨k, List.mem_filter.mpr ⟨List.mem_range.mpr hk, ?_⟩, rfl⟩
    unfold thinP
    by_cases c : k = 0
    · rw [decide_eq_true c]
      rfl
    · rw [decide_eq_false c, Bool.false_or, Bool.not_eq_true', decide_eq_false_iff_not]
      exact ld _ (mem_at (by omega)) (rise_getD r (show k - 1 < k by omega) hk)
theorem nodup_rise {xs : List Int} (r : xs.Pairwise (· < ·)) : xs.Nodup := r.imp fun h => Int.ne_of_lt h
/-- the greatest below -/
theorem last_max {xs : List Int} (r : xs.Pairwise (· < ·)) {z : Int} (h : xs.getLast? = some z) : z ∈ xs ∧ ∀ y ∈ xs, y ≤ z := by
  obtain ⟨ini, e⟩ := List.getLast?_eq_some_iff.mp h
  subst e
  refine ⟨by simp, fun y hy => ?_⟩
  rcases List.mem_append.mp hy with m | m
  · exact Int.le_of_lt ((List.pairwise_append.mp r).2.2 y m z List.mem_cons_self)
  · rw [List.mem_singleton.mp m]
    omega
theorem head_min {xs : List Int} (r : xs.Pairwise (· < ·)) {z : Int} (h : xs.head? = some z) : z ∈ xs ∧ ∀ y ∈ xs, z ≤ y := by
  cases xs with
  | nil => cases h
  | cons a rest =>
    cases h
    refine ⟨List.mem_cons_self, fun y hy => ?_⟩
    rcases List.mem_cons.mp hy with e | m
    · omega
    · exact Int.le_of_lt ((List.pairwise_cons.mp r).1 y m)
theorem below_spec {xs : List Int} (r : xs.Pairwise (· < ·)) {n b : Int} (h : belowO xs n = some b) : b ∈ xs ∧ b < n ∧ ∀ y ∈ xs, y < n → y ≤ b := by
  obtain ⟨m, mx⟩ := last_max (r.filter _) h
  have m2 := List.mem_filter.mp m
  exact ⟨m2.1, of_decide_eq_true m2.2, fun y hy lt => mx y (List.mem_filter.mpr ⟨hy, decide_eq_true lt⟩)⟩
theorem below_none {xs : List Int} {n : Int} (h : belowO xs n = none) : ∀ y ∈ xs, ¬ y < n := by
  unfold belowO at h
  rw [List.getLast?_eq_none_iff] at h
  exact fun y hy lt => by
    have z : y ∈ xs.filter fun x => decide (x < n) := List.mem_filter.mpr ⟨hy, decide_eq_true lt⟩
    rw [h] at z
    cases z
theorem above_spec {xs : List Int} (r : xs.Pairwise (· < ·)) {n b : Int} (h : aboveO xs n = some b) : b ∈ xs ∧ n < b ∧ ∀ y ∈ xs, n < y → b ≤ y := by
  obtain ⟨m, mx⟩ := head_min (r.filter _) h
  have m2 := List.mem_filter.mp m
  exact ⟨m2.1, of_decide_eq_true m2.2, fun y hy lt => mx y (List.mem_filter.mpr ⟨hy, decide_eq_true lt⟩)⟩
theorem above_none {xs : List Int} {n : Int} (h : aboveO xs n = none) : ∀ y ∈ xs, ¬ n < y := by
  unfold aboveO at h
  rw [List.head?_eq_none_iff] at h
  exact fun y hy lt => by
    have z : y ∈ xs.filter fun x => decide (n < x) := List.mem_filter.mpr ⟨hy, decide_eq_true lt⟩
    rw [h] at z
    cases z
theorem onLev_lead {w : Int} (hw : 2 ≤ w) {xs : List Int} (r : xs.Pairwise (· < ·)) {n : Int} {l : Nat} : onLev w xs n l = true ↔ Lead (w ^ l) xs n := by
  have s0 := pow_pos' hw l
  unfold onLev
  cases h : belowO xs n with
  | none => exact ⟨fun _ y hy lt => absurd lt (below_none h y hy), fun _ => rfl⟩
  | some b =>
    obtain ⟨b1, b2, b3⟩ := below_spec r h
    show decide (b / w ^ l < n / w ^ l) = true ↔ _
    rw [decide_eq_true_iff]
    have c0 := div_le_of s0 (Int.le_of_lt b2)
    refine ⟨fun c y hy lt e => ?_, fun c => ?_⟩
    · have := div_le_of s0 (b3 y hy lt)
      omega
    · have := c b b1 b2
      omega
theorem mate_iff {w : Int} (hw : 2 ≤ w) {xs : List Int} (r : xs.Pairwise (· < ·)) {n x : Int} {l : Nat} (hn : Lead (w ^ l) xs n) (nn : n ∉ xs) : mateO w xs n l = some x ↔ x ∈ levL w l xs ∧ n < x ∧ x / w ^ l = n / w ^ l := by
  have s0 := pow_pos' hw l
  rw [mem_lev hw r]
  unfold mateO
  cases h : aboveO xs n with
  | none => exact ⟨fun z => (nomatch z), fun ⟨⟨m, _⟩, lt, _⟩ => absurd lt (above_none h x m)⟩
  | some g =>
    obtain ⟨g1, g2, g3⟩ := above_spec r h
    show (if g / w ^ l = n / w ^ l then some g else none) = some x ↔ _
    constructor
    · intro z
      by_cases c : g / w ^ l = n / w ^ l
      · rw [if_pos c] at z
        cases z
        refine ⟨⟨g1, fun y hy lt e => ?_⟩, g2, c⟩
        rcases Int.lt_trichotomy y n with c2 | c2 | c2
        · exact hn y hy c2 (by omega)
        · exact nn (c2 ▸ hy)
        · have := g3 y hy c2
          omega
      · rw [if_neg c] at z
        cases z
    · rintro ⟨⟨m, ld⟩, lt, e⟩
      have a1 := g3 x m lt
      have b1 := div_le_of s0 a1
      have b2 := div_le_of s0 (Int.le_of_lt g2)
      have c : g / w ^ l = n / w ^ l := by omega
      rw [if_pos c]
      by_cases d : g = x
      · rw [d]
      · exact absurd (show g / w ^ l = x / w ^ l by omega) (ld g g1 (by omega))
/-- put in: who stands there then -/
theorem lev_put {w : Int} (hw : 2 ≤ w) {xs : List Int} (r : xs.Pairwise (· < ·)) {n x : Int} {l : Nat} (nn : n ∉ xs) : x ∈ levL w l (insR n xs) ↔ if onLev w xs n l = true then x = n ∨ (x ∈ levL w l xs ∧ mateO w xs n l ≠ some x) else x ∈ levL w l xs := by
  have s0 := pow_pos' hw l
  have r2 := insR_rise (n := n) r
  rw [mem_lev hw r2, mem_insR]
  by_cases c : onLev w xs n l = true
  · rw [if_pos c]
    have ld := (onLev_lead hw r).mp c
    constructor
    · rintro ⟨rfl | ⟨m, ne⟩, le⟩
      · exact .inl rfl
      · refine .inr ⟨(mem_lev hw r).mpr ⟨m, fun y hy => le y (mem_insR.mpr (by by_cases e : y = n; exact .inl e; exact .inr ⟨hy, e⟩))⟩, fun z => ?_⟩
        obtain ⟨_, lt, e⟩ := (mate_iff hw r ld nn).mp z
        exact le n (mem_insR.mpr (.inl rfl)) lt e.symm
    · rintro (rfl | ⟨m, ne⟩)
      · refine ⟨.inl rfl, fun y hy lt => ?_⟩
        rcases mem_insR.mp hy with rfl | ⟨hy, _⟩
        · omega
        · exact ld y hy lt
      · have m2 := (mem_lev hw r).mp m
        have xn : x ≠ n := fun z => nn (z ▸ m2.1)
        refine ⟨.inr ⟨m2.1, xn⟩, fun y hy lt => ?_⟩
        rcases mem_insR.mp hy with rfl | ⟨hy, _⟩
        · exact fun e => ne ((mate_iff hw r ld nn).mpr ⟨m, lt, e.symm⟩)
        · exact m2.2 y hy lt
  · rw [if_neg c, mem_lev hw r]
    have nl : ∃ b ∈ xs, b < n ∧ b / w ^ l = n / w ^ l := by
      refine Classical.byContradiction fun z => c ((onLev_lead hw r).mpr fun y hy lt e => z ⟨y, hy, lt, e⟩)
    obtain ⟨b, hb, lb, eb⟩ := nl
    constructor
    · rintro ⟨rfl | ⟨m, ne⟩, le⟩
      · exact absurd eb (le b (mem_insR.mpr (.inr ⟨hb, by omega⟩)) lb)
      · exact ⟨m, fun y hy => le y (mem_insR.mpr (by by_cases e : y = n; exact .inl e; exact .inr ⟨hy, e⟩))⟩
    · rintro ⟨m, le⟩
      have xn : x ≠ n := fun z => nn (z ▸ m)
      refine ⟨.inr ⟨m, xn⟩, fun y hy lt e => ?_⟩
      rcases mem_insR.mp hy with rfl | ⟨hy, _⟩
      · exact le b hb (by omega) (by omega)
      · exact le y hy lt e
theorem rise_ext {xs ys : List Int} (r : xs.Pairwise (· < ·)) (s : ys.Pairwise (· < ·)) (h : ∀ x, x ∈ xs ↔ x ∈ ys) : xs = ys :=
  PySem.W.ksm_same ((List.perm_ext_iff_of_nodup (nodup_rise r) (nodup_rise s)).mpr h) (r.imp fun h => Int.le_of_lt h) (s.imp fun h => Int.le_of_lt h)
theorem ins_rem {xs : List Int} (r : xs.Pairwise (· < ·)) {n : Int} (h : n ∈ xs) : insR n (remR n xs) = xs := rise_ext (insR_rise (r.filter _)) r fun x => by
  rw [mem_insR, mem_remR]
  constructor
  · rintro (rfl | ⟨⟨m, _⟩, _⟩)
    · exact h
    · exact m
  · intro m
    by_cases e : x = n
    · exact .inl e
    · exact .inr ⟨⟨m, e⟩, e⟩
theorem not_rem {xs : List Int} {n : Int} : n ∉ remR n xs := fun z => (mem_remR.mp z).2 rfl
theorem below_rem (xs : List Int) (n : Int) : belowO (remR n xs) n = belowO xs n := by
  unfold belowO remR
  rw [List.filter_filter]
  congr 1
  refine List.filter_congr fun x _ => ?_
  by_cases c : x < n
  · rw [decide_eq_true c, decide_eq_false (show ¬ x = n by omega)]
    rfl
  · rw [decide_eq_false c]
    rfl
theorem above_rem (xs : List Int) (n : Int) : aboveO (remR n xs) n = aboveO xs n := by
  unfold aboveO remR
  rw [List.filter_filter]
  congr 1
  refine List.filter_congr fun x _ => ?_
  by_cases c : n < x
  · rw [decide_eq_true c, decide_eq_false (show ¬ x = n by omega)]
    rfl
  · rw [decide_eq_false c]
    rfl
theorem onLev_rem (w : Int) (xs : List Int) (n : Int) (l : Nat) : onLev w (remR n xs) n l = onLev w xs n l := by
  unfold onLev
  rw [below_rem]
theorem mate_rem (w : Int) (xs : List Int) (n : Int) (l : Nat) : mateO w (remR n xs) n l = mateO w xs n l := by
  unfold mateO
  rw [above_rem]
theorem chTake_eq (w : Int) (h : Nat) (xs : List Int) (n : Int) : chTake w h xs n = ((List.range (h + 1)).filter (onLev w (remR n xs) n)).map fun l => dCh l (mateO w (remR n xs) n l) (some n) := by
  unfold chTake
  have e : onLev w (remR n xs) n = onLev w xs n := funext fun l => onLev_rem w xs n l
  rw [e]
  refine List.map_congr_left fun l _ => ?_
  rw [mate_rem]
/-- a level is the one beneath it, thinned -/
theorem lev_thin {w : Int} (hw : 2 ≤ w) {xs : List Int} (r : xs.Pairwise (· < ·)) (l : Nat) : thinF (w ^ (l + 1)) (fun k => (levL w l xs).getD k 0) (levL w l xs).length = levL w (l + 1) xs := by
  have r1 := levL_rise r w l
  have e : thinF (w ^ (l + 1)) (fun k => (levL w l xs).getD k 0) (levL w l xs).length = levL w (l + 1) (levL w l xs) := rfl
  rw [e]
  refine rise_ext (levL_rise r1 w (l + 1)) (levL_rise r w (l + 1)) fun x => ?_
  rw [mem_lev hw r1, mem_lev hw r, mem_lev hw r]
  have s0 := pow_pos' hw l
  have dd : ∀ y : Int, y / w ^ (l + 1) = y / w ^ l / w := fun y => by rw [Int.pow_succ, Int.ediv_ediv_of_nonneg (Int.le_of_lt s0)]
  constructor
  · rintro ⟨⟨m, l1⟩, l2⟩
    refine ⟨m, fun y hy lt ey => ?_⟩
    -- the least one of y's block
    have key : ∀ (k : Nat) (y : Int), y ∈ xs → y < x → y / w ^ (l + 1) = x / w ^ (l + 1) → (xs.filter fun z => decide (z < y)).length ≤ k → ∃ z, z ∈ xs ∧ Lead (w ^ l) xs z ∧ z < x ∧ z / w ^ (l + 1) = x / w ^ (l + 1) := by
      intro k
      induction k with
      | zero =>
        intro y hy lt ey hk
        refine ⟨y, hy, fun z hz lz => ?_, lt, ey⟩
        have : z ∈ (xs.filter fun z => decide (z < y)) := List.mem_filter.mpr ⟨hz, decide_eq_true lz⟩
        rw [List.length_eq_zero_iff.mp (Nat.le_zero.mp hk)] at this
        cases this
      | succ k ih =>
        intro y hy lt ey hk
        by_cases c : Lead (w ^ l) xs y
        · exact ⟨y, hy, c, lt, ey⟩
        · have : ∃ z ∈ xs, z < y ∧ z / w ^ l = y / w ^ l := Classical.byContradiction fun q => c fun z hz lz e => q ⟨z, hz, lz, e⟩
          obtain ⟨z, hz, lz, ez⟩ := this
          refine ih z hz (by omega) (by rw [dd, ez, ← dd, ey]) ?_
          have sub : ((xs.filter fun q => decide (q < z)).length + 1) ≤ (xs.filter fun q => decide (q < y)).length := by
            have e1 := place_gap z y (Int.le_of_lt lz) xs
            unfold placeN at e1
            have : z ∈ (xs.filter fun q => decide (z ≤ q) && decide (q < y)) := List.mem_filter.mpr ⟨hz, by rw [decide_eq_true (Int.le_refl z), decide_eq_true lz]; rfl⟩
            have := List.length_pos_of_mem this
            omega
          omega
    obtain ⟨z, z1, z2, z3, z4⟩ := key _ y hy lt ey (Nat.le_refl _)
    exact l2 z ((mem_lev hw r).mpr ⟨z1, z2⟩) z3 z4
  · rintro ⟨m, le⟩
    refine ⟨⟨m, fun y hy lt e => le y hy lt (by rw [dd, dd, e])⟩, fun y hy lt => le y ((mem_lev hw r).mp hy).1 lt⟩
theorem lev_zero {w : Int} (hw : 2 ≤ w) {xs : List Int} (r : xs.Pairwise (· < ·)) : levL w 0 xs = xs := rise_ext (levL_rise r w 0) r fun x => by
  rw [mem_lev hw r]
  refine ⟨fun h => h.1, fun h => ⟨h, fun y _ lt => ?_⟩⟩
  rw [Int.pow_zero, Int.ediv_one, Int.ediv_one]
  omega
theorem lev_nil (w : Int) (l : Nat) : levL w l [] = [] := rfl
/-! ### the trail, step by step -/
theorem rise_room {B : Int} : ∀ (L : List Int) (A : Int), L.Pairwise (· < ·) → (∀ x ∈ L, A < x ∧ x < B) → A < B → (L.length : Int) ≤ B - A - 1
  | [], A, _, _, h => by
    show (0 : Int) ≤ B - A - 1
    omega
  | x :: L, A, r, h, _ => by
    obtain ⟨h1, h2⟩ := h x List.mem_cons_self
    have r2 := List.pairwise_cons.mp r
    have ih := rise_room L x r2.2 (fun y hy => ⟨r2.1 y hy, (h y (List.mem_cons_of_mem _ hy)).2⟩) h2
    rw [List.length_cons]
    omega
theorem lead_lt {s : Int} (hs : 0 < s) {xs : List Int} {a b : Int} (ha : a ∈ xs) (hb : Lead s xs b) (h : a < b) : a / s < b / s := by
  have h1 := div_le_of hs (Int.le_of_lt h)
  have h2 := hb a ha h
  omega
/-- the least one of the block of b -/
theorem lead_of {s : Int} (hs : 0 < s) {xs : List Int} : ∀ (k : Nat) (b : Int), b ∈ xs → (xs.filter fun z => decide (z < b)).length ≤ k → ∃ z, z ∈ xs ∧ Lead s xs z ∧ z ≤ b ∧ z / s = b / s
  | 0, b, hb, hk => by
    refine ⟨b, hb, fun z hz lz => ?_, Int.le_refl _, rfl⟩
    have : z ∈ (xs.filter fun z => decide (z < b)) := List.mem_filter.mpr ⟨hz, decide_eq_true lz⟩
    rw [List.length_eq_zero_iff.mp (Nat.le_zero.mp hk)] at this
    cases this
  | k + 1, b, hb, hk => by
    by_cases c : Lead s xs b
    · exact ⟨b, hb, c, Int.le_refl _, rfl⟩
    · have : ∃ z ∈ xs, z < b ∧ z / s = b / s := Classical.byContradiction fun q => c fun z hz lz e => q ⟨z, hz, lz, e⟩
      obtain ⟨z, hz, lz, ez⟩ := this
      have sub : ((xs.filter fun q => decide (q < z)).length + 1) ≤ (xs.filter fun q => decide (q < b)).length := by
        have e1 := place_gap z b (Int.le_of_lt lz) xs
        unfold placeN at e1
        have m : z ∈ (xs.filter fun q => decide (z ≤ q) && decide (q < b)) := List.mem_filter.mpr ⟨hz, by rw [decide_eq_true (Int.le_refl z), decide_eq_true lz]; rfl⟩
        have := List.length_pos_of_mem m
        omega
      obtain ⟨y, y1, y2, y3, y4⟩ := lead_of hs k z hz (by omega)
      exact ⟨y, y1, y2, by omega, by omega⟩
theorem lev_down {w : Int} (hw : 2 ≤ w) {xs : List Int} (r : xs.Pairwise (· < ·)) {l : Nat} {x : Int} (h : x ∈ levL w (l + 1) xs) : x ∈ levL w l xs := by
  have s0 := pow_pos' hw l
  rw [mem_lev hw r] at h ⊢
  have dd : ∀ y : Int, y / w ^ (l + 1) = y / w ^ l / w := fun y => by rw [Int.pow_succ, Int.ediv_ediv_of_nonneg (Int.le_of_lt s0)]
  exact ⟨h.1, fun y hy lt e => h.2 y hy lt (by rw [dd, dd, e])⟩
/-- nobody between a and the wanted one on the level -/
def Top (w : Int) (xs : List Int) (n : Int) (l : Nat) (a : Int) : Prop := ∀ b ∈ levL w l xs, a < b → n < b
theorem mem_goR {ls : List Int} {n a x : Int} : x ∈ goR ls n a ↔ x ∈ ls ∧ x ≤ n ∧ a < x := by
  unfold goR
  rw [List.mem_filter, Bool.and_eq_true, decide_eq_true_iff, decide_eq_true_iff]
theorem goR_room {w : Int} (hw : 2 ≤ w) {xs : List Int} (r : xs.Pairwise (· < ·)) {n a : Int} {l : Nat} (ha : a ∈ levL w (l + 1) xs) (t : Top w xs n (l + 1) a) : ((goR (levL w l xs) n a).length : Int) ≤ w - 1 := by
  have s0 := pow_pos' hw l
  have p0 := pow_pos' hw (l + 1)
  have dd : ∀ y : Int, y / w ^ (l + 1) = y / w ^ l / w := fun y => by rw [Int.pow_succ, Int.ediv_ediv_of_nonneg (Int.le_of_lt s0)]
  have ax : a ∈ xs := levL_mem ha
  have same : ∀ x ∈ goR (levL w l xs) n a, x / w ^ (l + 1) = a / w ^ (l + 1) := fun x hx => by
    obtain ⟨m, le, lt⟩ := mem_goR.mp hx
    have h1 := div_le_of p0 (Int.le_of_lt lt)
    by_cases c : x / w ^ (l + 1) = a / w ^ (l + 1)
    · exact c
    · obtain ⟨z, z1, z2, z3, z4⟩ := lead_of p0 _ x (levL_mem m) (Nat.le_refl _)
      have az : a < z := by
        by_cases d : z ≤ a
        · have := div_le_of p0 d
          omega
        · omega
      have := t z ((mem_lev hw r).mpr ⟨z1, z2⟩) az
      omega
  have e : (goR (levL w l xs) n a).length = ((goR (levL w l xs) n a).map fun x => x / w ^ l).length := (List.length_map ..).symm
  rw [e]
  have A0 : a / w ^ l / w * w ≤ a / w ^ l := Int.ediv_mul_le _ (by omega)
  have A1 : a / w ^ l < (a / w ^ l / w + 1) * w := by
    have := Int.lt_ediv_add_one_mul_self (a / w ^ l) (show 0 < w by omega)
    exact this
  have A2 : (a / w ^ l / w + 1) * w = a / w ^ l / w * w + w := by rw [Int.add_mul, Int.one_mul]
  have rr : (goR (levL w l xs) n a).Pairwise (· < ·) := (levL_rise r w l).filter _
  have rr2 : ((goR (levL w l xs) n a).map fun x => x / w ^ l).Pairwise (· < ·) := by
    rw [List.pairwise_map]
    refine rr.imp_of_mem fun {x y} hx hy lt => ?_
    exact lead_lt s0 (levL_mem (mem_goR.mp hx).1) ((mem_lev hw r).mp (mem_goR.mp hy).1).2 lt
  have z := rise_room (B := (a / w ^ l / w + 1) * w) _ (a / w ^ l) rr2 (fun q hq => by
    obtain ⟨x, hx, rfl⟩ := List.mem_map.mp hq
    obtain ⟨m, le, lt⟩ := mem_goR.mp hx
    refine ⟨lead_lt s0 ax ((mem_lev hw r).mp m).2 lt, ?_⟩
    have e3 := same x hx
    rw [dd, dd] at e3
    have := Int.lt_ediv_add_one_mul_self (x / w ^ l) (show 0 < w by omega)
    rw [e3] at this
    exact this) A1
  omega
theorem last_or {L : List Int} {a : Int} : L.getLast?.getD a = a ∧ L = [] ∨ L.getLast? = some (L.getLast?.getD a) := by
  cases h : L.getLast? with
  | none => exact .inl ⟨rfl, List.getLast?_eq_none_iff.mp h⟩
  | some z => exact .inr rfl
/-- where the search stands when it can't go right any more -/
theorem stop_at {w : Int} {xs : List Int} (r : xs.Pairwise (· < ·)) {n a : Int} {l : Nat} (ha : a ∈ levL w l xs) (an : a ≤ n) : (goR (levL w l xs) n a).getLast?.getD a ∈ levL w l xs ∧ (goR (levL w l xs) n a).getLast?.getD a ≤ n ∧ Top w xs n l ((goR (levL w l xs) n a).getLast?.getD a) := by
  rcases last_or (L := goR (levL w l xs) n a) (a := a) with ⟨e, h⟩ | h
  · rw [e]
    refine ⟨ha, an, fun b hb lt => ?_⟩
    by_cases c : b ≤ n
    · have : b ∈ goR (levL w l xs) n a := mem_goR.mpr ⟨hb, c, lt⟩
      rw [h] at this
      cases this
    · omega
  · obtain ⟨m, mx⟩ := last_max ((levL_rise r w l).filter _) h
    obtain ⟨m1, m2, m3⟩ := mem_goR.mp m
    refine ⟨m1, m2, fun b hb lt => ?_⟩
    by_cases c : b ≤ n
    · have := mx b (mem_goR.mpr ⟨hb, c, by omega⟩)
      omega
    · omega
/-- how often a trail goes right on a level -/
def rightsN : List (Nat × Int) → Nat → Nat
  | s :: t :: r, l => (if s.1 = t.1 ∧ s.1 = l then 1 else 0) + rightsN (t :: r) l
  | _, _ => 0
theorem trailC_head (w : Int) (xs : List Int) (n : Int) (l : Nat) (a : Int) : ∃ r, trailC w xs n l a = (l, a) :: r := by
  cases l with
  | zero => exact ⟨_, rfl⟩
  | succ l => exact ⟨_, rfl⟩
theorem rights_level (l : Nat) : ∀ (L : List Int) (a : Int) (r : List (Nat × Int)) (k : Nat), (∀ s ∈ r.head?, s.1 < l) → rightsN ((l, a) :: L.map (fun x => (l, x)) ++ r) k = (if k = l then L.length else 0) + rightsN r k
  | [], a, [], k, _ => by
    show 0 = (if k = l then 0 else 0) + 0
    split <;> rfl
  | [], a, t :: r, k, h => by
    have ht := h t rfl
    show (if l = t.1 ∧ l = k then 1 else 0) + rightsN (t :: r) k = (if k = l then 0 else 0) + rightsN (t :: r) k
    rw [if_neg (by omega)]
    split <;> rfl
  | x :: L, a, r, k, h => by
    show (if l = l ∧ l = k then 1 else 0) + rightsN ((l, x) :: L.map (fun x => (l, x)) ++ r) k = _
    rw [rights_level l L x r k h, List.length_cons]
    by_cases c : k = l
    · rw [if_pos ⟨rfl, c.symm⟩, if_pos c, if_pos c]
      omega
    · rw [if_neg fun z => c z.2.symm, if_neg c, if_neg c]
      omega
theorem trail_rights {w : Int} (hw : 2 ≤ w) {xs : List Int} (r : xs.Pairwise (· < ·)) {n : Int} : ∀ (l : Nat) (a : Int), a ∈ levL w l xs → a ≤ n → ((goR (levL w l xs) n a).length : Int) ≤ w - 1 → ∀ k, (rightsN (trailC w xs n l a) k : Int) ≤ w - 1 ∧ (l < k → rightsN (trailC w xs n l a) k = 0)
  | 0, a, ha, an, g, k => by
    have e : trailC w xs n 0 a = (0, a) :: (goR (levL w 0 xs) n a).map (fun x => (0, x)) ++ [] := (List.append_nil _).symm
    rw [e, rights_level 0 _ a [] k (fun s hs => nomatch hs)]
    show (((if k = 0 then _ else 0) + 0 : Nat) : Int) ≤ w - 1 ∧ (0 < k → (if k = 0 then _ else 0) + 0 = 0)
    by_cases c : k = 0
    · rw [if_pos c]
      exact ⟨g, fun z => by omega⟩
    · rw [if_neg c]
      exact ⟨by show (0 : Int) ≤ w - 1; omega, fun _ => rfl⟩
  | l + 1, a, ha, an, g, k => by
    obtain ⟨s1, s2, s3⟩ := stop_at r ha an
    have ih := trail_rights hw r l _ (lev_down hw r s1) s2 (goR_room hw r s1 s3) k
    obtain ⟨rr, er⟩ := trailC_head w xs n l ((goR (levL w (l + 1) xs) n a).getLast?.getD a)
    show ((rightsN ((l + 1, a) :: (goR (levL w (l + 1) xs) n a).map (fun x => (l + 1, x)) ++ trailC w xs n l ((goR (levL w (l + 1) xs) n a).getLast?.getD a)) k : Nat) : Int) ≤ _ ∧ (_ → rightsN ((l + 1, a) :: (goR (levL w (l + 1) xs) n a).map (fun x => (l + 1, x)) ++ trailC w xs n l ((goR (levL w (l + 1) xs) n a).getLast?.getD a)) k = 0)
    rw [rights_level (l + 1) _ a _ k (fun s hs => by rw [er] at hs; cases hs; exact Nat.lt_succ_self l)]
    by_cases c : k = l + 1
    · rw [if_pos c, ih.2 (by omega)]
      exact ⟨g, fun z => by omega⟩
    · rw [if_neg c, Nat.zero_add]
      exact ⟨ih.1, fun z => ih.2 (by omega)⟩
theorem trail_len {w : Int} (hw : 2 ≤ w) {xs : List Int} (r : xs.Pairwise (· < ·)) {n : Int} : ∀ (l : Nat) (a : Int), a ∈ levL w l xs → a ≤ n → ((trailC w xs n l a).length : Int) ≤ 1 + ((goR (levL w l xs) n a).length : Int) + (l : Int) * w
  | 0, a, ha, an => by
    have e : (trailC w xs n 0 a).length = (goR (levL w 0 xs) n a).length + 1 := by
      show ((0, a) :: (goR (levL w 0 xs) n a).map fun x => (0, x)).length = _
      rw [List.length_cons, List.length_map]
    rw [e]
    omega
  | l + 1, a, ha, an => by
    obtain ⟨s1, s2, s3⟩ := stop_at r ha an
    have ih := trail_len hw r l _ (lev_down hw r s1) s2
    have g := goR_room hw r s1 s3
    have e : (trailC w xs n (l + 1) a).length = (goR (levL w (l + 1) xs) n a).length + 1 + (trailC w xs n l ((goR (levL w (l + 1) xs) n a).getLast?.getD a)).length := by
      show ((l + 1, a) :: (goR (levL w (l + 1) xs) n a).map (fun x => (l + 1, x)) ++ trailC w xs n l ((goR (levL w (l + 1) xs) n a).getLast?.getD a)).length = _
      rw [List.length_append, List.length_cons, List.length_map]
    have m : ((l + 1 : Nat) : Int) * w = (l : Int) * w + w := by
      rw [Int.natCast_add, Int.add_mul]
      show _ + 1 * w = _
      rw [Int.one_mul]
    rw [e, m]
    omega
/-- the end -/
theorem trail_last {w : Int} (hw : 2 ≤ w) {xs : List Int} (r : xs.Pairwise (· < ·)) {n : Int} : ∀ (l : Nat) (a : Int), a ∈ levL w l xs → a ≤ n → ∃ z, (trailC w xs n l a).getLast? = some (0, z) ∧ (xs.filter fun x => decide (x ≤ n)).getLast? = some z
  | 0, a, ha, an => by
    obtain ⟨s1, s2, s3⟩ := stop_at r ha an
    refine ⟨(goR (levL w 0 xs) n a).getLast?.getD a, ?_, ?_⟩
    · show ((0, a) :: (goR (levL w 0 xs) n a).map fun x => (0, x)).getLast? = _
      rw [List.getLast?_cons, List.getLast?_map]
      cases (goR (levL w 0 xs) n a).getLast? <;> rfl
    · have m : (goR (levL w 0 xs) n a).getLast?.getD a ∈ (xs.filter fun x => decide (x ≤ n)) := List.mem_filter.mpr ⟨levL_mem s1, decide_eq_true s2⟩
      cases h : (xs.filter fun x => decide (x ≤ n)).getLast? with
      | none =>
        rw [List.getLast?_eq_none_iff.mp h] at m
        cases m
      | some q =>
        obtain ⟨q1, q2⟩ := last_max (r.filter _) h
        have q3 := List.mem_filter.mp q1
        have a1 := q2 _ m
        by_cases c : (goR (levL w 0 xs) n a).getLast?.getD a < q
        · have := s3 q (by rw [lev_zero hw r]; exact q3.1) c
          have := of_decide_eq_true q3.2
          omega
        · rw [show q = (goR (levL w 0 xs) n a).getLast?.getD a by omega]
  | l + 1, a, ha, an => by
    obtain ⟨s1, s2, s3⟩ := stop_at r ha an
    obtain ⟨z, z1, z2⟩ := trail_last hw r l _ (lev_down hw r s1) s2
    refine ⟨z, ?_, z2⟩
    show ((l + 1, a) :: (goR (levL w (l + 1) xs) n a).map (fun x => (l + 1, x)) ++ trailC w xs n l ((goR (levL w (l + 1) xs) n a).getLast?.getD a)).getLast? = _
    rw [List.getLast?_append, z1]
    rfl
/-- each step -/
def stepT (w : Int) (xs : List Int) (n : Int) (s : Nat × Int) : Option (Nat × Int) := match nextO w s.1 xs s.2 with
  | none => if 0 < s.1 then some (s.1 - 1, s.2) else none
  | some b => if b ≤ n then some (s.1, b) else if 0 < s.1 then some (s.1 - 1, s.2) else none
def Walk (w : Int) (xs : List Int) (n : Int) (h : Nat) : List (Nat × Int) → Prop
  | [] => True
  | s :: r => s.1 ≤ h ∧ s.2 ∈ levL w s.1 xs ∧ (∀ t ∈ r.head?, stepT w xs n s = some t) ∧ Walk w xs n h r
theorem walk_level {w : Int} {xs : List Int} (r : xs.Pairwise (· < ·)) {n : Int} {h l : Nat} (hl : l ≤ h) (rest : List (Nat × Int)) (hr : Walk w xs n h rest) : ∀ (k : Nat) (a : Int), a ∈ levL w l xs → (goR (levL w l xs) n a).length ≤ k → (∀ b, b ∈ levL w l xs → goR (levL w l xs) n b = [] → b = (goR (levL w l xs) n a).getLast?.getD a → ∀ t ∈ rest.head?, stepT w xs n (l, b) = some t) → Walk w xs n h ((l, a) :: (goR (levL w l xs) n a).map (fun x => (l, x)) ++ rest)
  | k, a, ha, hk, hs => by
    cases hn : ((levL w l xs).filter fun x => decide (a < x)).head? with
    | none =>
      have g := goR_none (n := n) hn
      rw [g] at hs ⊢
      exact ⟨hl, ha, hs a ha g rfl, hr⟩
    | some b =>
      have g := goR_some (n := n) (levL_rise r w l) hn
      by_cases c : b ≤ n
      · rw [if_pos c] at g
        have hb : b ∈ levL w l xs := by
          have m : b ∈ goR (levL w l xs) n a := by
            rw [g]
            exact List.mem_cons_self
          exact (mem_goR.mp m).1
        cases k with
        | zero =>
          rw [g] at hk
          cases hk
        | succ k =>
          rw [g, List.length_cons] at hk
          have e : (b :: goR (levL w l xs) n b).getLast?.getD a = (goR (levL w l xs) n b).getLast?.getD b := by
            rw [List.getLast?_cons]
            rfl
          rw [g, e] at hs
          have ih := walk_level r hl rest hr k b hb (by omega) hs
          rw [g]
          refine ⟨hl, ha, fun t ht => ?_, ih⟩
          cases ht
          unfold stepT nextO
          rw [hn]
          show (if b ≤ n then some (l, b) else _) = some (l, b)
          rw [if_pos c]
      · rw [if_neg c] at g
        rw [g] at hs ⊢
        exact ⟨hl, ha, hs a ha g rfl, hr⟩
theorem step_down {w : Int} {xs : List Int} (r : xs.Pairwise (· < ·)) {n b : Int} {l : Nat} (g : goR (levL w (l + 1) xs) n b = []) : stepT w xs n (l + 1, b) = some (l, b) := by
  unfold stepT nextO
  show (match ((levL w (l + 1) xs).filter fun x => decide (b < x)).head? with | none => _ | some c => _) = _
  cases hn : ((levL w (l + 1) xs).filter fun x => decide (b < x)).head? with
  | none =>
    show (if 0 < l + 1 then some (l + 1 - 1, b) else none) = _
    rw [if_pos (Nat.succ_pos l)]
    rfl
  | some c =>
    have e := goR_some (n := n) (levL_rise r w (l + 1)) hn
    rw [g] at e
    show (if c ≤ n then some (l + 1, c) else if 0 < l + 1 then some (l + 1 - 1, b) else none) = _
    by_cases d : c ≤ n
    · rw [if_pos d] at e
      cases e
    · rw [if_neg d, if_pos (Nat.succ_pos l)]
      rfl
theorem trail_walk {w : Int} (hw : 2 ≤ w) {xs : List Int} (r : xs.Pairwise (· < ·)) {n : Int} {h : Nat} : ∀ (l : Nat) (a : Int), l ≤ h → a ∈ levL w l xs → a ≤ n → Walk w xs n h (trailC w xs n l a)
  | 0, a, hl, ha, an => by
    have z := walk_level (n := n) r hl [] trivial _ a ha (Nat.le_refl _) (fun b _ _ _ t ht => nomatch ht)
    rw [List.append_nil] at z
    exact z
  | l + 1, a, hl, ha, an => by
    obtain ⟨s1, s2, s3⟩ := stop_at r ha an
    have ih := trail_walk hw r l _ (show l ≤ h by omega) (lev_down hw r s1) s2
    obtain ⟨rr, er⟩ := trailC_head w xs n l ((goR (levL w (l + 1) xs) n a).getLast?.getD a)
    refine walk_level (n := n) r hl _ ih _ a ha (Nat.le_refl _) (fun b hb g e t ht => ?_)
    rw [er] at ht
    cases ht
    rw [step_down r g, e]
theorem first_lead {x0 : Int} {rest : List Int} (r : (x0 :: rest).Pairwise (· < ·)) {w : Int} (hw : 2 ≤ w) (l : Nat) : x0 ∈ levL w l (x0 :: rest) := (mem_lev hw r).mpr ⟨List.mem_cons_self, fun y hy lt => by
  rcases List.mem_cons.mp hy with e | m
  · omega
  · have := (List.pairwise_cons.mp r).1 y m
    omega⟩
theorem top_none {w : Int} {h : Nat} {x0 : Int} {rest : List Int} (ok : RowOk w h (x0 :: rest)) (n : Int) : goR (levL w h (x0 :: rest)) n x0 = [] := by
  cases hg : goR (levL w h (x0 :: rest)) n x0 with
  | nil => rfl
  | cons b r =>
    have m : b ∈ goR (levL w h (x0 :: rest)) n x0 := by
      rw [hg]
      exact List.mem_cons_self
    obtain ⟨m1, _, lt⟩ := mem_goR.mp m
    obtain ⟨bx, ld⟩ := (mem_lev ok.w2 ok.rise).mp m1
    have z : ∀ x ∈ x0 :: rest, x / w ^ h = 0 := fun x hx => Int.ediv_eq_zero_of_lt (ok.lo x hx) (ok.hi x hx)
    exact absurd ((z x0 List.mem_cons_self).trans (z b bx).symm) (ld x0 List.mem_cons_self lt)
structure TrailOk (w : Int) (h : Nat) (xs : List Int) (n : Int) (t : List (Nat × Int)) : Prop where
  first : ∃ x0 rest, xs = x0 :: rest ∧ t.head? = some (h, x0)
  walk : Walk w xs n h t
  few : ∀ k, (rightsN t k : Int) ≤ w - 1
  none_top : rightsN t h = 0
  len : (t.length : Int) ≤ 1 + (h : Int) * w
  last : ∃ z, t.getLast? = some (0, z) ∧ (xs.filter fun x => decide (x ≤ n)).getLast? = some z
theorem trail_ok {w : Int} {h : Nat} {x0 : Int} {rest : List Int} (ok : RowOk w h (x0 :: rest)) {n : Int} (hn : x0 ≤ n) : TrailOk w h (x0 :: rest) n (trailC w (x0 :: rest) n h x0) := by
  have f := first_lead ok.rise ok.w2 h
  have g := top_none ok n
  have w2 := ok.w2
  have g2 : ((goR (levL w h (x0 :: rest)) n x0).length : Int) ≤ w - 1 := by
    rw [g]
    show (0 : Int) ≤ w - 1
    omega
  refine ⟨⟨x0, rest, rfl, ?_⟩, trail_walk ok.w2 ok.rise h x0 (Nat.le_refl _) f hn, fun k => (trail_rights ok.w2 ok.rise h x0 f hn g2 k).1, ?_, ?_, trail_last ok.w2 ok.rise h x0 f hn⟩
  · obtain ⟨r, e⟩ := trailC_head w (x0 :: rest) n h x0
    rw [e]
    rfl
  · obtain ⟨l, rfl⟩ : ∃ l, h = l + 1 := ⟨h - 1, by have := ok.h1; omega⟩
    obtain ⟨s1, s2, s3⟩ := stop_at ok.rise f hn
    obtain ⟨rr, er⟩ := trailC_head w (x0 :: rest) n l ((goR (levL w (l + 1) (x0 :: rest)) n x0).getLast?.getD x0)
    show rightsN ((l + 1, x0) :: (goR (levL w (l + 1) (x0 :: rest)) n x0).map (fun x => (l + 1, x)) ++ trailC w (x0 :: rest) n l ((goR (levL w (l + 1) (x0 :: rest)) n x0).getLast?.getD x0)) (l + 1) = 0
    rw [rights_level (l + 1) _ x0 _ (l + 1) (fun s hs => by rw [er] at hs; cases hs; exact Nat.lt_succ_self l), if_pos rfl, (trail_rights ok.w2 ok.rise l _ (lev_down ok.w2 ok.rise s1) s2 (goR_room ok.w2 ok.rise s1 s3) (l + 1)).2 (Nat.lt_succ_self l), g]
    rfl
  · have z := trail_len ok.w2 ok.rise h x0 f hn
    rw [g] at z
    have z2 : (([] : List Int).length : Int) = 0 := rfl
    omega
theorem walk_at {w : Int} {xs : List Int} {n : Int} {h : Nat} : ∀ (t : List (Nat × Int)) (i : Nat) (s : Nat × Int), Walk w xs n h t → t[i]? = some s → s.1 ≤ h ∧ s.2 ∈ levL w s.1 xs ∧ ∀ s2, t[i + 1]? = some s2 → stepT w xs n s = some s2
  | [], i, s, _, e => by simp at e
  | s0 :: r, 0, s, wk, e => by
    cases e
    refine ⟨wk.1, wk.2.1, fun s2 e2 => wk.2.2.1 s2 ?_⟩
    cases r with
    | nil => simp at e2
    | cons s3 r =>
      cases e2
      rfl
  | s0 :: r, i + 1, s, wk, e => walk_at r i s wk.2.2.2 (by simpa using e)
/-- how often ahead of the i-th place -/
def rightsAt (t : List (Nat × Int)) (i l : Nat) : Nat := ((List.range i).filter fun k => match t[k]?, t[k + 1]? with | some s, some s2 => decide (s.1 = s2.1) && decide (s.1 = l) | _, _ => false).length
theorem rightsAt_succ (t : List (Nat × Int)) (i l : Nat) : rightsAt t (i + 1) l = rightsAt t i l + (match t[i]?, t[i + 1]? with | some s, some s2 => if s.1 = s2.1 ∧ s.1 = l then 1 else 0 | _, _ => 0) := by
  unfold rightsAt
  rw [List.range_succ, List.filter_append, List.length_append]
  congr 1
  rw [List.filter_cons, List.filter_nil]
  cases t[i]? with
  | none => rfl
  | some s =>
    cases t[i + 1]? with
    | none => rfl
    | some s2 =>
      show (if (decide (s.1 = s2.1) && decide (s.1 = l)) = true then [i] else []).length = if s.1 = s2.1 ∧ s.1 = l then 1 else 0
      by_cases c : s.1 = s2.1 ∧ s.1 = l
      · rw [if_pos c, if_pos (by rw [decide_eq_true c.1, decide_eq_true c.2]; rfl)]
        rfl
      · rw [if_neg c, if_neg (by rw [Bool.and_eq_true, decide_eq_true_iff, decide_eq_true_iff]; exact c)]
        rfl
theorem rightsAt_cons (s : Nat × Int) (t : List (Nat × Int)) (l : Nat) : ∀ i, rightsAt (s :: t) (i + 1) l = (match t[0]? with | some s2 => if s.1 = s2.1 ∧ s.1 = l then 1 else 0 | none => 0) + rightsAt t i l
  | 0 => by
    rw [rightsAt_succ]
    show rightsAt (s :: t) 0 l + (match some s, t[0]? with | some s, some s2 => if s.1 = s2.1 ∧ s.1 = l then 1 else 0 | _, _ => 0) = _
    have e : rightsAt (s :: t) 0 l = 0 := rfl
    have e2 : rightsAt t 0 l = 0 := rfl
    rw [e, e2]
    cases t[0]? with
    | none => rfl
    | some s2 => exact Nat.zero_add _
  | i + 1 => by
    rw [rightsAt_succ, rightsAt_cons s t l i, rightsAt_succ t i l, Nat.add_assoc]
    rfl
theorem rightsAt_all (l : Nat) : ∀ t : List (Nat × Int), rightsAt t (t.length - 1) l = rightsN t l
  | [] => rfl
  | [s] => rfl
  | s :: s2 :: t => by
    have ih := rightsAt_all l (s2 :: t)
    show rightsAt (s :: s2 :: t) (t.length + 1) l = (if s.1 = s2.1 ∧ s.1 = l then 1 else 0) + rightsN (s2 :: t) l
    rw [rightsAt_cons, ← ih]
    rfl
/-- the next one on a level, found by walking along the row -/
theorem nextO_by {w : Int} (hw : 2 ≤ w) {xs : List Int} (r : xs.Pairwise (· < ·)) {l : Nat} {n b : Int} : nextO w l xs n = some b ↔ (b ∈ levL w l xs ∧ n < b ∧ ∀ y ∈ levL w l xs, n < y → b ≤ y) := by
  unfold nextO
  constructor
  · intro h
    obtain ⟨m, mx⟩ := head_min ((levL_rise r w l).filter _) h
    have m2 := List.mem_filter.mp m
    exact ⟨m2.1, of_decide_eq_true m2.2, fun y hy lt => mx y (List.mem_filter.mpr ⟨hy, decide_eq_true lt⟩)⟩
  · rintro ⟨m, lt, mx⟩
    cases h : ((levL w l xs).filter fun x => decide (n < x)).head? with
    | none =>
      rw [List.head?_eq_none_iff] at h
      have : b ∈ (levL w l xs).filter fun x => decide (n < x) := List.mem_filter.mpr ⟨m, decide_eq_true lt⟩
      rw [h] at this
      cases this
    | some c =>
      obtain ⟨m3, mx3⟩ := head_min ((levL_rise r w l).filter _) h
      have m4 := List.mem_filter.mp m3
      have a1 := mx c m4.1 (of_decide_eq_true m4.2)
      have a2 := mx3 b (List.mem_filter.mpr ⟨m, decide_eq_true lt⟩)
      rw [show c = b by omega]
theorem nextO_no {w : Int} {xs : List Int} {l : Nat} {n : Int} : nextO w l xs n = none ↔ ∀ y ∈ levL w l xs, ¬ n < y := by
  unfold nextO
  rw [List.head?_eq_none_iff, List.filter_eq_nil_iff]
  exact ⟨fun h y hy lt => h y hy (decide_eq_true lt), fun h y hy z => h y hy (of_decide_eq_true z)⟩
/-! ### rules: calls in a try, isinstance of the error that is held -/
def tMethS (C : Addr) (m : Str) (sp : Sp) (E : L2.St → XK) (ta : TE) (t : TA) : TE := fun σ H Q => ta σ H fun x H1 => ∃ a dx fs, x = .ref a ∧ H1 a = some (.ins C dx fs) ∧ fs.lookup m = none ∧ t σ H1 fun vs H2 => sp (x :: vs) H2 Q (E σ)
theorem pe_methS {X : Cx} {CX : CXT} {k : Nat} {f C : Addr} {fd : FuncData} {ps : List Str} {sp : Sp} {E : L2.St → XK} {m : Str} {pos apos : Pos} {e o : Expr} {es : List Expr} {ta : TE} {t : TA} {pl : Sem Bool} (he : PE X o ta) (c : Cls X.K C) (hm : Meth X.K C m f)
    (F : FnOk X.prog X.w X.K X.mg X.base CX k f fd ps sp) (hr : Room k X.A) (hb : Binds X.K fd ps []) (hx : ∀ σ, PassesAt CX X σ (E σ)) (ha : PA X (e :: es) t)
    (hst : starEach (e :: es) X.env = (false, eval e X.env) :: starEach es X.env := by rfl) (hpl : (backTo pos (starEach es X.env)).any (·.1) = false := by rfl)
    (ht : eval (.Call (.Attribute o m apos) (e :: es) [] pos) X.env = (do
      let ov ← eval o X.env
      standAt apos.atName
      let (f, first) ← holding [ov] (getMethod ov m pl)
      callWith pos f first (backTo pos (starEach (e :: es) X.env)) (backToKw pos (keywordEach [] X.env))) := by rfl) :
    PE X (.Call (.Attribute o m apos) (e :: es) [] pos) (tMethS C m sp E ta t) := by
  refine ⟨fun pins s σ H Q I h => ?_⟩
  refine PySem.W.methodCall_KW (pl := pl) (thn (he.run pins s σ H _ I h) fun u s1 ⟨x, H1, I1, rx, a, dx, fs, ex, ea, l, q⟩ => ?_) ht
  subst ex
  obtain rfl : u = Value.ref a := rx
  refine getmeth_ok I1 ea c hm l ?_
  refine PySem.W.callWith_K (first := [.ref a]) (h₀ := X.base) I.ok.mod.kin hm.kp (thn (ha.run pos pins s1 σ H1 _ I1 q) fun us s2 ⟨vs, H2, I2, r, q2⟩ => ⟨I2.kIn, ?_⟩) hst hpl
  exact run_fnS (us := .ref a :: us) (vs := .ref a :: vs) F hr hb (hx σ) I2 (.cons rfl r) q2
/-- isinstance(e, c), e the error that the suite holds, whichever class it is of -/
def rIsEx (K : PySem.W.Frag) (cls : Value) (dd : Option Addr) (a : Addr) : List V → Hp → VK → Prop := fun xs H Q => ∃ (D : Addr) (c : V) (cv : Value) (b : Bool), cls = .ref D ∧ dd = none ∧ ExcC K D ∧ xs = [.ref a, c] ∧ (∀ u, RelV c u → u = cv) ∧ PySem.W.kitOne K (.ref D) cv = some b ∧ Q (.bl b) H
theorem call_isEx {X : Cx} {K : PySem.W.Frag} {a : Addr} {cls : Value} {dd : Option Addr} {oe : Obj} {pn : List (Addr × Obj)} (hz : Zc cls dd oe) (hf : ∃ vs, oe.data = .fields vs) (hK : X.K = K := by rfl) : CallR (X.suite a ((a, oe) :: pn)) (.builtin "isinstance") (rIsEx K cls dd a) := by
  subst hK
  intro pins s σ H xs us Q I r h
  obtain ⟨D, c, cv, b, rfl, rfl, hC, rfl, hcv, e, q⟩ := h
  exact call_isE hC hz hf pins s σ H _ us Q I r ⟨c, cv, b, rfl, hcv, e, q⟩
/-! ### sorted(d), d a dict whose keys are whole numbers, any number of them -/
def rSortDA : List V → Hp → VK → Prop := fun xs H Q => ∃ (a : Addr) (kvs : List (Key × V)) (ks : List Int), xs = [.ref a] ∧ Rd H a (.dK kvs) ∧ kvs.map (·.1) = ks.map Sum.inl ∧
  ∀ (ys : List Int) (p : Addr), ys.Perm ks → ys.Pairwise (· ≤ ·) → H p = none → Q (.ref p) (upd H p (.lst (ys.map V.int)))
theorem keys_ints {vs : List (Key × Value)} {ks : List Int} {us : List Value} (hk : vs.map (·.1) = ks.map Sum.inl) (hl : us.length = ks.length)
    (hu : ∀ (j : Nat) (v : Value), us[j]? = some v → ∃ (k : Key) (x : Value), vs[j]? = some (k, x) ∧ keyIs k v = true) : PyProof.Rows.IntsAre us ks := ints_each hl fun j v e => by
  obtain ⟨k, x, m1, m2⟩ := hu j v e
  have m3 : (ks.map Sum.inl)[j]? = some k := hk ▸ (by rw [List.getElem?_map, m1]; rfl)
  rw [List.getElem?_map] at m3
  obtain ⟨y, m4, m5⟩ := Option.map_eq_some_iff.mp m3
  subst m5
  rcases keyIs_shape m2 with ⟨i, t, c1, c2⟩ | ⟨z, t, c1, _⟩
  · exact ⟨y, t, m4, by rw [c2, Sum.inl.inj c1]⟩
  · cases c1
theorem call_sortedDA {X : Cx} (calm : X.calm = true) : CallR X (.builtin "sorted") rSortDA := fun pins s σ H xs us Q I r ⟨a, kvs, ks, ex, hd, hks, q⟩ => by
  subst ex
  obtain ⟨u, eu, rx⟩ := vals1 r
  subst eu
  cases rx
  obtain ⟨room, low, vs, rel, dd⟩ := dk_rd I.hok hd
  obtain ⟨ep, there⟩ := dd.dictAt
  have keys : vs.map (·.1) = ks.map Sum.inl := rel.keys.symm.trans hks
  have many : vs.length = ks.length := by simpa using congrArg List.length keys
  have fits : vs.length ≤ sizeLine := by
    have z := congrArg List.length rel.keys
    rw [List.length_map, List.length_map] at z
    omega
  refine Calls.call_function_entry PyProof.Rows.kind_sorted PyProof.Rows.plain_sorted PyProof.Rows.entry_sorted (PyProof.Rows.args_sorted1 _)
    (wpAny_bind (m := checkCount "sorted" 1 1 _) (wpAny_pure (wpAny_bind (PySem.W.kdu_collect (A := X.A.in1) (PySem.W.kdl_dict (knd := mixKind X.prog X.w) (kvs := vs) (ep := ep) low) (I.ok.hd calm) there fits fun h2 tk acc grown got => ?_))))
  have len : acc.toList.length = ks.length := by rw [Array.length_toList, got.1, many]
  have hin : PyProof.Rows.IntsAre acc.toList ks := keys_ints keys len fun j v e => got.2 j v (by rw [← Array.getElem?_toList]; exact e)
  have fits2 : acc.toList.length ≤ sizeLine := by omega
  have I2 : Inv X pins σ H { s with heap := h2, toks := tk } := I.kept grown
  have laid : (h2.push (PyProof.Rows.seqObj "list" acc.toList.toArray 0)).get? h2.objs.size = some (PyProof.Rows.seqObj "list" acc.toList.toArray 0) := Heap.get?_push_size _ rfl
  refine wpAny_bind (wpAny_newList (show wpAny _ _ _ _ _ { s with heap := h2.push (PyProof.Rows.seqObj "list" acc.toList.toArray 0), toks := tk } from ?_) fits2)
  refine wpAny_bind (wpAny_holding (wpAny_call_entry PyProof.Rows.slot_list_sort ⟨_, laid, rfl⟩ PyProof.Rows.entry_list_sort (SrtO.list_sort_ord SrtO.swo_int laid fits2 (fun two => SrtO.ints_sortable hin two) fun out o1 o2 => ⟨_, rfl, ?_⟩) (PyProof.Rows.args_list_sort _)))
  obtain ⟨k1, k2, k3⟩ := SrtO.ints_out hin o1 o2
  obtain ⟨ep2, at2⟩ := PyProof.Rows.sortedHeap_at (vs := acc.toList) (out := out.toArray) laid
  have fits3 : ((out.map SrtO.iv).map V.int).length ≤ sizeLine := by
    rw [List.length_map, k2.length_eq]
    omega
  refine wpAny_pure ⟨_, rfl, .ref h2.objs.size, upd H h2.objs.size (.lst ((out.map SrtO.iv).map V.int)), I2.laid (t' := tk) (fun b u e => ?_) (Nat.le_refl _) (show ObjOk X.prog X.w _ _ _ (.lst ((out.map SrtO.iv).map V.int)) from ⟨fits3, out, ep2, vals_of_ints k1, at2⟩), rfl, q _ _ k2 k3 (I2.hok.fresh (Nat.le_refl _))⟩
  have lt : b < h2.objs.size := Heap.lt_size e
  have lt2 : b < (h2.push (PyProof.Rows.seqObj "list" acc.toList.toArray 0)).objs.size := Nat.lt_trans lt (Heap.lt_size laid)
  rw [PyProof.Rows.sortedHeap_old (Nat.ne_of_lt lt) lt2]
  exact Heap.get?_push_of_some _ e
/-! ### a dict that keeps numbers, each with True -/
def dkv (ns : List Int) : List (Key × V) := ns.map fun n => (Sum.inl n, V.bl true)
theorem dkv_keys (ns : List Int) : (dkv ns).map (·.1) = ns.map Sum.inl := by
  unfold dkv
  rw [List.map_map]
  rfl
theorem dkv_len (ns : List Int) : (dkv ns).length = ns.length := List.length_map ..
theorem dkv_val (x : Int) : ∀ ns : List Int, (valV (dkv ns) (Sum.inl x)).isSome = decide (x ∈ ns)
  | [] => rfl
  | a :: ns => by
    have ih := dkv_val x ns
    by_cases c : a = x
    · subst c
      show (valV ((Sum.inl a, V.bl true) :: dkv ns) (Sum.inl a)).isSome = _
      rw [valV_pos rfl, decide_eq_true List.mem_cons_self]
      rfl
    · show (valV ((Sum.inl a, V.bl true) :: dkv ns) (Sum.inl x)).isSome = _
      rw [valV_neg (fun z => c (Sum.inl.inj z)), ih]
      have h2 : ¬ x = a := fun z => c z.symm
      simp [h2]
theorem dkv_put {x : Int} {ns : List Int} (h : x ∉ ns) : putK (dkv ns) (Sum.inl x) (.bl true) = dkv (ns ++ [x]) := by
  have hv : valV (dkv ns) (Sum.inl x) = none := by
    have z := dkv_val x ns
    rw [decide_eq_false h] at z
    cases e : valV (dkv ns) (Sum.inl x) with
    | none => rfl
    | some v =>
      rw [e] at z
      cases z
  rw [putK_new _ hv]
  unfold dkv
  rw [List.map_append]
  rfl
theorem dkv_drop (x : Int) (ns : List Int) : dropK (dkv ns) (Sum.inl x) = dkv (ns.filter fun y => !decide (y = x)) := by
  unfold dropK dkv
  rw [List.filter_map]
  congr 1
  refine List.filter_congr fun y _ => ?_
  show decide ((Sum.inl y : Key) ≠ Sum.inl x) = !decide (y = x)
  by_cases c : y = x
  · subst c
    simp
  · have c2 : ¬ (Sum.inl y : Key) = Sum.inl x := fun z => c (Sum.inl.inj z)
    rw [decide_eq_true c2, decide_eq_false c]
    rfl
/-! ### range(a, b, c), c above nought -/
theorem rgc_pos {i j c : Int} (hi : 0 ≤ i ∧ i ≤ 1000) (hj : 0 ≤ j ∧ j ≤ 1000) (hc : 1 ≤ c ∧ c ≤ 1000) :
    RgC i j c (if i < j then (j - i - 1) / c + 1 else 0).toNat ∧ ∀ t : Nat, t < (if i < j then (j - i - 1) / c + 1 else 0).toNat → i + (t : Int) * c < j := by
  have sz : Builtin.Range.rangeSize i j c = if i < j then (j - i - 1) / c + 1 else 0 := by
    unfold Builtin.Range.rangeSize
    rw [if_pos (by omega)]
  have lim : 0 ≤ (if i < j then (j - i - 1) / c + 1 else 0) ∧ (if i < j then (j - i - 1) / c + 1 else 0) ≤ 1001 ∧ (¬ i < j → (if i < j then (j - i - 1) / c + 1 else 0) = 0) := by
    split
    · have a1 := Int.ediv_nonneg (show 0 ≤ j - i - 1 by omega) (show 0 ≤ c by omega)
      have a2 := Int.ediv_le_self c (show 0 ≤ j - i - 1 by omega)
      omega
    · omega
  refine ⟨⟨by omega, by omega, ?_, ?_⟩, fun t ht => ?_⟩
  · unfold Builtin.Range.small
    rw [sz]
    generalize (if i < j then (j - i - 1) / c + 1 else 0) = n at lim
    rw [if_pos (show c > 0 by omega)]
    simp only [Builtin.Range.rangeFitsLong, Bool.and_eq_true, Bool.or_eq_true, decide_eq_true_eq, beq_iff_eq]
    omega
  · rw [sz]
    omega
  · by_cases c1 : i < j
    · rw [if_pos c1] at ht
      have a1 := Int.ediv_mul_le (j - i - 1) (show c ≠ 0 by omega)
      have a2 : (t : Int) ≤ (j - i - 1) / c := by omega
      have a3 := Int.mul_le_mul_of_nonneg_right a2 (show 0 ≤ c by omega)
      omega
    · rw [if_neg c1] at ht
      exact absurd ht (Nat.not_lt_zero t)
theorem dict_m1 {X : Cx} {o : Expr} {m : Str} {apos cpos : Pos} {e : Expr} (base : attributeBase o m X.env (eval o X.env) = eval o X.env := by rfl)
    (few : ((backTo cpos (starEach [e] X.env)).all (fun x => !x.1) && (backToKw cpos (keywordEach [] X.env)).all (fun x => x.1.isSome) && decide (([e] : List Expr).length + ([] : List Keyword).length + (if ([] : List Keyword).isEmpty then 0 else 1) < 30)) = true := by rfl)
    (line : (apos.endLine == cpos.line) = true := by rfl) (trees : backTo cpos (starEach [e] X.env) = [(false, eval e X.env)] := by rfl) : M1 X o m apos e cpos := ⟨base, few, line, trees⟩
/-! ### for i, x in enumerate(xs) -/
theorem for_enumL {K : PySem.W.Frag} {a : Addr} {xs : List V} {g : TG} {tb : TS} {D : Ends} {σ : L2.St} {H : Hp} (Pv : Nat → L2.St → Hp → Prop) (start : Pv 0 σ H) (still : ∀ i σ H, Pv i σ H → SqL K H a xs)
    (turn : ∀ (i : Nat) (x : V) (T : Addr) (σ : L2.St) (H : Hp), xs[i]? = some x → Pv i σ H → H T = none → g (.ref T) σ (upd H T (.tup [.int (i : Nat), x])) fun σ2 H2 => tb { D with nx := Pv (i + 1), ct := Pv (i + 1), bk := D.nx } σ2 H2) (fin : ∀ σ H, Pv xs.length σ H → D.nx σ H) :
    ∃ W : Nat → Nat → L2.St → Hp → Prop, (∃ m, W 0 m σ H) ∧ ∀ i m σ H, W i m σ H →
      ((Ite K a).stop i H ∧ D.nx σ H) ∨ ((Ite K a).go i H ∧ ∃ N : L2.St → Hp → Prop, (∀ σ' H', N σ' H' → ∃ m', m' < m ∧ W (i + 1) m' σ' H') ∧ ∀ v H', (Ite K a).yld i H v H' → g v σ H' fun σ2 H2 => tb { D with nx := N, ct := N, bk := D.nx } σ2 H2) := by
  refine ⟨fun i m σ H => Pv i σ H ∧ i ≤ xs.length ∧ m + i = xs.length, ⟨xs.length, start, Nat.zero_le _, rfl⟩, fun i m σ H hW => ?_⟩
  obtain ⟨hp, hi, hm⟩ := hW
  have hq := still i σ H hp
  rcases Nat.lt_or_ge i xs.length with lt | ge
  · exact .inr ⟨⟨xs, xs[i], hq, List.getElem?_eq_getElem lt⟩, Pv (i + 1), fun σ' H' hp' => ⟨m - 1, by omega, hp', by omega, by omega⟩, fun v H' hy => by
      obtain ⟨T, x, rfl, nT, rfl, fx⟩ := hy
      exact turn i x T σ H (fx xs hq) hp nT⟩
  · have ei : i = xs.length := by omega
    subst ei
    exact .inl ⟨⟨xs, hq, Nat.le_refl _⟩, fin σ H hp⟩
theorem iteNT' {c A B : Prop} [Decidable c] (hc : ¬ c) (h : B) : if decide c = true then A else B := by
  rw [if_neg (fun z => hc (of_decide_eq_true z))]
  exact h
/-- d[n] = True, kept already or not -/
theorem dkv_set (n : Int) (gw : List Int) : ∃ gw2, putK (dkv gw) (Sum.inl n) (.bl true) = dkv gw2 ∧ gw2.length ≤ gw.length + 1 := by
  by_cases m : n ∈ gw
  · refine ⟨gw, ?_, Nat.le_succ _⟩
    have hany : ((dkv gw).any fun kv => decide (kv.1 = Sum.inl n)) = true := List.any_eq_true.mpr ⟨(Sum.inl n, .bl true), List.mem_map.mpr ⟨n, m, rfl⟩, decide_eq_true rfl⟩
    unfold putK
    rw [if_pos hany]
    refine (List.map_congr_left fun kv hk => ?_).trans (List.map_id _)
    obtain ⟨x, _, rfl⟩ := List.mem_map.mp hk
    show (if (Sum.inl x : Key) = Sum.inl n then ((Sum.inl x : Key), V.bl true) else (Sum.inl x, V.bl true)) = _
    split <;> rfl
  · exact ⟨gw ++ [n], dkv_put m, by rw [List.length_append]; exact Nat.le_refl _⟩
def apartP (w b n : Int) (l : Nat) : Bool := !decide (V.int (b / w ^ l) = V.int (n / w ^ l))
def tallN (w : Int) (h : Nat) (b n : Int) : Nat := (List.range (h + 1)).countP (apartP w b n)
def tallO (w : Int) (h : Nat) (b : Option Int) (n : Int) : Int := match b with
  | none => (h : Int) + 1
  | some b => (tallN w h b n : Int)
def sp_tall (_ : PySem.W.Frag) : Sp := fun vs H Q _ => ∃ (wd : Int) (h : Nat) (b : Option Int) (n : Int), vs = [.int wd, .int (h : Int), oV b, .int n] ∧ 2 ≤ wd ∧ wd ≤ 9 ∧ h ≤ 12 ∧ Q (.int (tallO wd h b n)) H
/-! the mathematics -/
theorem countP_succ (p : Nat → Bool) (i : Nat) : (List.range (i + 1)).countP p = (List.range i).countP p + if p i = true then 1 else 0 := by
  rw [List.range_succ, List.countP_append, List.countP_cons, List.countP_nil]
  simp
theorem apart_down {w b n : Int} (l : Nat) (h : apartP w b n (l + 1) = true) (hw : 2 ≤ w) : apartP w b n l = true := by
  unfold apartP at *
  rw [Bool.not_eq_true', decide_eq_false_iff_not] at *
  intro e
  apply h
  have e1 := V.int.inj e
  have p := pow_pos' hw l
  rw [Int.pow_succ, ← Int.ediv_ediv_of_nonneg (by omega), ← Int.ediv_ediv_of_nonneg (by omega), e1]
theorem down_all {p : Nat → Bool} (hp : ∀ l, p (l + 1) = true → p l = true) : ∀ {m : Nat}, p m = true → ∀ l, l ≤ m → p l = true
  | 0, h, l, hl => by
    rw [show l = 0 by omega]
    exact h
  | m + 1, h, l, hl => by
    by_cases e : l = m + 1
    · rw [e]
      exact h
    · exact down_all hp (hp m h) l (by omega)
theorem filter_down {p : Nat → Bool} (hp : ∀ l, p (l + 1) = true → p l = true) : ∀ m : Nat, (List.range m).filter p = List.range ((List.range m).countP p)
  | 0 => rfl
  | m + 1 => by
    by_cases h : p m = true
    · have ha : ∀ l ∈ List.range (m + 1), p l = true := fun l hl => down_all hp h l (by have := List.mem_range.mp hl; omega)
      have h1 : (List.range (m + 1)).filter p = List.range (m + 1) := List.filter_eq_self.mpr ha
      have h2 : (List.range (m + 1)).countP p = (List.range (m + 1)).length := List.countP_eq_length.mpr ha
      rw [h1, h2, List.length_range]
    · rw [countP_succ, if_neg h, List.range_succ, List.filter_append, filter_down hp m]
      have h3 : [m].filter p = [] := by
        rw [List.filter_cons, if_neg h]
        rfl
      rw [h3, List.append_nil, Nat.add_zero]
/-! ### the row, cut where a number is or would be -/
theorem filt_place {n : Int} : ∀ {xs : List Int}, xs.Pairwise (· < ·) → (xs.filter fun x => decide (x < n)) = xs.take (placeN xs n)
  | [], _ => rfl
  | x :: xs, r => by
    have rr := List.pairwise_cons.mp r
    have ih := filt_place (n := n) rr.2
    unfold placeN at ih ⊢
    by_cases c : x < n
    · rw [List.filter_cons, if_pos (decide_eq_true c), List.length_cons, List.take_succ_cons, ← ih]
    · have e : ((x :: xs).filter fun x => decide (x < n)) = [] := List.filter_eq_nil_iff.mpr fun y hy => by
        rcases List.mem_cons.mp hy with z | z
        · rw [z, decide_eq_false c]
          decide
        · have := rr.1 y z
          rw [decide_eq_false (by omega)]
          decide
      rw [e]
      rfl
theorem filt_place_ge {n : Int} : ∀ {xs : List Int}, xs.Pairwise (· < ·) → (xs.filter fun x => decide (n ≤ x)) = xs.drop (placeN xs n)
  | [], _ => rfl
  | x :: xs, r => by
    have rr := List.pairwise_cons.mp r
    have ih := filt_place_ge (n := n) rr.2
    by_cases c : x < n
    · have e : placeN (x :: xs) n = placeN xs n + 1 := by
        unfold placeN
        rw [List.filter_cons, if_pos (decide_eq_true c), List.length_cons]
      rw [e, List.drop_succ_cons, ← ih, List.filter_cons, if_neg]
      rw [decide_eq_false (by omega)]
      decide
    · have e : placeN (x :: xs) n = 0 := by
        unfold placeN
        rw [List.length_eq_zero_iff, List.filter_eq_nil_iff]
        intro y hy
        rcases List.mem_cons.mp hy with z | z
        · rw [z, decide_eq_false c]
          decide
        · have := rr.1 y z
          rw [decide_eq_false (by omega)]
          decide
      rw [e, List.drop_zero, List.filter_eq_self]
      intro y hy
      rcases List.mem_cons.mp hy with z | z
      · rw [z]
        exact decide_eq_true (by omega)
      · have := rr.1 y z
        exact decide_eq_true (by omega)
theorem placeN_le (xs : List Int) (n : Int) : placeN xs n ≤ xs.length := List.length_filter_le _ _
/-- the greatest one that is less -/
theorem belowO_at {xs : List Int} (r : xs.Pairwise (· < ·)) (n : Int) : belowO xs n = if placeN xs n = 0 then none else xs[placeN xs n - 1]? := by
  have hl := placeN_le xs n
  unfold belowO
  rw [filt_place r]
  split
  · rename_i e
    rw [e]
    rfl
  · rename_i e
    rw [List.getLast?_eq_getElem?, List.length_take, Nat.min_eq_left hl, List.getElem?_take, if_pos (by omega)]
theorem aboveEq_at {xs : List Int} (r : xs.Pairwise (· < ·)) (n : Int) : (xs.filter fun x => decide (n ≤ x)).head? = xs[placeN xs n]? := by
  rw [filt_place_ge r, List.head?_drop]
theorem at_place {xs : List Int} (r : xs.Pairwise (· < ·)) {n : Int} (h : n ∈ xs) : xs[placeN xs n]? = some n := by
  obtain ⟨k, hk, e⟩ := List.mem_iff_getElem.mp h
  have e2 : xs.getD k 0 = n := by rw [getD_eq hk, e]
  have z := placeN_at r hk
  rw [e2] at z
  rw [z, List.getElem?_eq_getElem hk, e]
theorem place_lt {xs : List Int} (r : xs.Pairwise (· < ·)) {n : Int} (h : n ∈ xs) : placeN xs n < xs.length := (List.getElem?_eq_some_iff.mp (at_place r h)).1
/-- the least one that is greater than a kept one -/
theorem aboveO_at {xs : List Int} (r : xs.Pairwise (· < ·)) {n : Int} (h : n ∈ xs) : aboveO xs n = xs[placeN xs n + 1]? := by
  unfold aboveO
  have e : (xs.filter fun x => decide (n < x)) = (xs.filter fun x => decide (n ≤ x)).filter fun x => decide (n < x) := by
    rw [List.filter_filter]
    refine List.filter_congr fun x _ => ?_
    by_cases c : n < x
    · rw [decide_eq_true c, decide_eq_true (show n ≤ x by omega)]
      rfl
    · rw [decide_eq_false c]
      rfl
  have hk := place_lt r h
  have h1 : xs.drop (placeN xs n) = n :: xs.drop (placeN xs n + 1) := by
    rw [List.drop_eq_getElem_cons hk]
    have z := at_place r h
    rw [List.getElem?_eq_getElem hk] at z
    rw [Option.some.inj z]
  have rr : (n :: xs.drop (placeN xs n + 1)).Pairwise (· < ·) := by
    rw [← h1]
    exact r.sublist (List.drop_sublist _ _)
  rw [e, filt_place_ge r, h1, List.filter_cons, if_neg (by rw [decide_eq_false (by omega)]; decide), List.filter_eq_self.mpr fun x hx => decide_eq_true ((List.pairwise_cons.mp rr).1 x hx), List.head?_drop]
/-! ### on how many levels a number stands -/
def cntN (w : Int) (h : Nat) (xs : List Int) (n : Int) : Nat := match belowO xs n with
  | none => h + 1
  | some b => tallN w h b n
theorem tallO_cnt (w : Int) (h : Nat) (xs : List Int) (n : Int) : tallO w h (belowO xs n) n = (cntN w h xs n : Int) := by
  unfold tallO cntN
  cases belowO xs n with
  | none => exact (Int.natCast_succ h).symm
  | some b => rfl
theorem tallN_le (w : Int) (h : Nat) (b n : Int) : tallN w h b n ≤ h + 1 := by
  have := List.countP_le_length (p := apartP w b n) (l := List.range (h + 1))
  rw [List.length_range] at this
  exact this
theorem cntN_le (w : Int) (h : Nat) (xs : List Int) (n : Int) : cntN w h xs n ≤ h + 1 := by
  unfold cntN
  cases belowO xs n with
  | none => exact Nat.le_refl _
  | some b => exact tallN_le w h b n
theorem lt_count {p : Nat → Bool} (hp : ∀ l, p (l + 1) = true → p l = true) {m l : Nat} (h : l < m) : l < (List.range m).countP p ↔ p l = true := by
  have e := filter_down hp m
  have z : l ∈ (List.range m).filter p ↔ l ∈ List.range ((List.range m).countP p) := by rw [e]
  rw [List.mem_filter, List.mem_range, List.mem_range] at z
  exact ⟨fun a => (z.mpr a).2, fun a => z.mp ⟨h, a⟩⟩
theorem apart_iff {w b n : Int} {l : Nat} : apartP w b n l = true ↔ b / w ^ l ≠ n / w ^ l := by
  unfold apartP
  rw [Bool.not_eq_true', decide_eq_false_iff_not]
  exact ⟨fun a e => a (congrArg V.int e), fun a e => a (V.int.inj e)⟩
theorem onLev_cnt {w : Int} (hw : 2 ≤ w) (h : Nat) (xs : List Int) (n : Int) : (List.range (h + 1)).filter (onLev w xs n) = List.range (cntN w h xs n) := by
  unfold cntN
  cases hb : belowO xs n with
  | none =>
    refine List.filter_eq_self.mpr fun l _ => ?_
    unfold onLev
    rw [hb]
  | some b =>
    have lt : b < n := by
      unfold belowO at hb
      obtain ⟨ini, e⟩ := List.getLast?_eq_some_iff.mp hb
      have m : b ∈ (xs.filter fun x => decide (x < n)) := by
        rw [e]
        simp
      exact of_decide_eq_true (List.mem_filter.mp m).2
    have e := filter_down (p := apartP w b n) (fun l hl => apart_down l hl hw) (h + 1)
    show _ = List.range ((List.range (h + 1)).countP (apartP w b n))
    rw [← e]
    refine List.filter_congr fun l _ => ?_
    have le : b / w ^ l ≤ n / w ^ l := Int.ediv_le_ediv (pow_pos' hw l) (by omega)
    have e1 : onLev w xs n l = decide (b / w ^ l < n / w ^ l) := by
      unfold onLev
      rw [hb]
    rw [e1]
    by_cases c : b / w ^ l = n / w ^ l
    · have z : ¬ apartP w b n l = true := fun a => (apart_iff.mp a) c
      rw [Bool.not_eq_true] at z
      rw [z, decide_eq_false (by omega)]
    · rw [apart_iff.mpr c, decide_eq_true (by omega)]
theorem mateO_none {w : Int} {xs : List Int} {n : Int} (h : aboveO xs n = none) (l : Nat) : mateO w xs n l = none := by
  unfold mateO
  rw [h]
theorem mateO_some {w : Int} (hw : 2 ≤ w) {xs : List Int} {n a : Int} (h : aboveO xs n = some a) {hh l : Nat} (hl : l < hh + 1) : mateO w xs n l = if l < tallN w hh n a then none else some a := by
  have z := lt_count (p := apartP w n a) (fun l hl => apart_down l hl hw) hl
  unfold mateO
  rw [h]
  show (if a / w ^ l = n / w ^ l then some a else none) = _
  by_cases c : l < tallN w hh n a
  · have c2 := apart_iff.mp (z.mp c)
    rw [if_pos c, if_neg fun e => c2 e.symm]
  · rw [if_neg c]
    by_cases e : a / w ^ l = n / w ^ l
    · rw [if_pos e]
    · exact absurd (z.mpr (apart_iff.mpr fun q => e q.symm)) c
/-- who else stands there, level by level -/
def heirL (w : Int) (h : Nat) (xs : List Int) (n : Int) : List V := (List.range (cntN w h xs n)).map fun l => oV (mateO w xs n l)
theorem heirL_len (w : Int) (h : Nat) (xs : List Int) (n : Int) : (heirL w h xs n).length = cntN w h xs n := by
  unfold heirL
  rw [List.length_map, List.length_range]
theorem heirL_at {w : Int} {h : Nat} {xs : List Int} {n : Int} {i : Nat} {x : V} (e : (heirL w h xs n)[i]? = some x) : x = oV (mateO w xs n i) := by
  unfold heirL at e
  rw [List.getElem?_map] at e
  obtain ⟨j, hj, rfl⟩ := Option.map_eq_some_iff.mp e
  obtain ⟨h1, h2⟩ := List.getElem?_eq_some_iff.mp hj
  rw [List.getElem_range] at h2
  rw [h2]
theorem chPut_cnt {w : Int} (hw : 2 ≤ w) (h : Nat) (xs : List Int) (n : Int) : chPut w h xs n = (List.range (cntN w h xs n)).map fun l => dCh l (some n) (mateO w xs n l) := by
  unfold chPut
  rw [onLev_cnt hw]
theorem chTake_cnt {w : Int} (hw : 2 ≤ w) (h : Nat) (xs : List Int) (n : Int) : chTake w h xs n = (List.range (cntN w h xs n)).map fun l => dCh l (mateO w xs n l) (some n) := by
  unfold chTake
  rw [onLev_cnt hw]
/-! ### a number put in, taken out, in the row -/
theorem insR_below (n : Int) (xs : List Int) : belowO (insR n xs) n = belowO xs n := by
  unfold belowO insR
  rw [List.filter_append, List.filter_filter, List.filter_cons, if_neg (by simp), List.filter_filter]
  have e1 : (xs.filter fun a => decide (a < n) && decide (a < n)) = xs.filter fun a => decide (a < n) := List.filter_congr fun x _ => Bool.and_self _
  have e2 : (xs.filter fun a => decide (a < n) && decide (n < a)) = [] := List.filter_eq_nil_iff.mpr fun x _ => by
    rw [Bool.and_eq_true, decide_eq_true_iff, decide_eq_true_iff]
    omega
  rw [e1, e2, List.append_nil]
theorem insR_above (n : Int) (xs : List Int) : aboveO (insR n xs) n = aboveO xs n := by
  unfold aboveO insR
  rw [List.filter_append, List.filter_filter, List.filter_cons, if_neg (by simp), List.filter_filter]
  have e1 : (xs.filter fun a => decide (n < a) && decide (n < a)) = xs.filter fun a => decide (n < a) := List.filter_congr fun x _ => Bool.and_self _
  have e2 : (xs.filter fun a => decide (n < a) && decide (a < n)) = [] := List.filter_eq_nil_iff.mpr fun x _ => by
    rw [Bool.and_eq_true, decide_eq_true_iff, decide_eq_true_iff]
    omega
  rw [e1, e2, List.nil_append]
theorem insR_mate (w n : Int) (xs : List Int) (l : Nat) : mateO w (insR n xs) n l = mateO w xs n l := by
  unfold mateO
  rw [insR_above]
theorem insR_cnt (w : Int) (h : Nat) (n : Int) (xs : List Int) : cntN w h (insR n xs) n = cntN w h xs n := by
  unfold cntN
  rw [insR_below]
/-- the row with the number put where it belongs -/
theorem insR_at {n : Int} {xs : List Int} (r : xs.Pairwise (· < ·)) (h : n ∉ xs) : xs.take (placeN xs n) ++ [n] ++ xs.drop (placeN xs n) = insR n xs := by
  unfold insR
  rw [filt_place r, ← filt_place_ge r, List.append_assoc]
  have e : (xs.filter fun x => decide (n ≤ x)) = xs.filter fun x => decide (n < x) := List.filter_congr fun x hx => by
    have : x ≠ n := fun e => h (e ▸ hx)
    by_cases c : n < x
    · rw [decide_eq_true c, decide_eq_true (by omega)]
    · rw [decide_eq_false c, decide_eq_false (by omega)]
  rw [e]
  rfl
/-- the row with the number taken out -/
theorem remR_at {n : Int} {xs : List Int} (r : xs.Pairwise (· < ·)) (h : n ∈ xs) : xs.eraseIdx (placeN xs n) = remR n xs := by
  have hk := place_lt r h
  have h1 : xs[placeN xs n] = n := by
    have z := at_place r h
    rw [List.getElem?_eq_getElem hk] at z
    exact Option.some.inj z
  unfold remR
  rw [List.eraseIdx_eq_take_drop_succ]
  have e := List.take_append_drop (placeN xs n) xs
  have r2 : xs = xs.take (placeN xs n) ++ (n :: xs.drop (placeN xs n + 1)) := by
    have z := List.drop_eq_getElem_cons hk
    rw [h1] at z
    rw [← z, e]
  have rp : (xs.take (placeN xs n) ++ (n :: xs.drop (placeN xs n + 1))).Pairwise (· < ·) := by
    rw [← r2]
    exact r
  have rq := List.pairwise_append.mp rp
  have f1 : (xs.take (placeN xs n)).filter (fun x => !decide (x = n)) = xs.take (placeN xs n) := List.filter_eq_self.mpr fun x hx => by
    have := rq.2.2 x hx n List.mem_cons_self
    rw [Bool.not_eq_true', decide_eq_false_iff_not]
    omega
  have f2 : (xs.drop (placeN xs n + 1)).filter (fun x => !decide (x = n)) = xs.drop (placeN xs n + 1) := List.filter_eq_self.mpr fun x hx => by
    have := (List.pairwise_cons.mp rq.2.1).1 x hx
    rw [Bool.not_eq_true', decide_eq_false_iff_not]
    omega
  calc xs.take (placeN xs n) ++ xs.drop (placeN xs n + 1) = (xs.take (placeN xs n) ++ (n :: xs.drop (placeN xs n + 1))).filter (fun x => !decide (x = n)) := by
        rw [List.filter_append, List.filter_cons, if_neg (by simp), f1, f2]
    _ = xs.filter (fun x => !decide (x = n)) := by rw [← r2]
/-! the promises of the blocks -/
def sp_power (_ : PySem.W.Frag) : Sp := fun vs H Q _ => ∃ (wd : Int) (l : Nat), vs = [.int wd, .int (l : Int)] ∧ 2 ≤ wd ∧ wd ≤ 9 ∧ l ≤ 12 ∧ Q (.int (wd ^ l)) H
def sp_block (_ : PySem.W.Frag) : Sp := fun vs H Q _ => ∃ (wd : Int) (l : Nat) (n : Int), vs = [.int wd, .int (l : Int), .int n] ∧ 2 ≤ wd ∧ wd ≤ 9 ∧ l ≤ 12 ∧ Q (.int (n / wd ^ l)) H
/-- a field of an instance that is there -/
theorem ev_fld {K : PySem.W.Frag} {te : TE} {σ : L2.St} {H : Hp} {a C dx : Addr} {fs : List (Str × V)} {f : Str} {v : V} (h : Evl.Ev te σ H (.ref a)) (hp : H a = some (.ins C dx fs)) (c : Cls K C) (n : NoAttr K C f) (l : fs.lookup f = some v) : Evl.Ev (tFld K te f) σ H v := fun H1 e Q q =>
  h H1 e _ fun H2 e2 => ⟨a, C, dx, fs, v, rfl, e2 _ _ (e _ _ hp), c, n, l, q H2 e2⟩
/-- a comprehension over enumerate(xs) -/
theorem lc_enumL {K : PySem.W.Frag} {a : Addr} {xs : List V} {g : TG} {tt : TT} {te : TE} {vs : List Nat} {σ : L2.St} {H1 : Hp} {D : Addr} {Qd : Hp → Prop} (Pv : Nat → Hp → Prop) (start : Pv 0 (upd H1 D (.lst [])))
    (still : ∀ i H, Pv i H → SqL K H a xs)
    (turn : ∀ (i : Nat) (x : V) (T : Addr) (H : Hp), xs[i]? = some x → Pv i H → H T = none → g (.ref T) (wipe σ vs) (upd H T (.tup [.int (i : Nat), x])) fun σ2 H2 => wipe σ2 vs = wipe σ vs ∧ tt σ2 H2 fun b H3 =>
      if b = true then te σ2 H3 fun y H4 => ∃ acc, H4 D = some (.lst acc) ∧ acc.length < sizeLine ∧ Pv (i + 1) (upd H4 D (.lst (acc ++ [y]))) else Pv (i + 1) H3) (fin : ∀ H, Pv xs.length H → Qd H) :
    ∃ W : Nat → Nat → Hp → Prop, (∃ m, W 0 m (upd H1 D (.lst []))) ∧ ∀ i m H, W i m H →
      ((Ite K a).stop i H ∧ Qd H) ∨ ((Ite K a).go i H ∧ ∃ Nx : Hp → Prop, (∀ H', Nx H' → ∃ m', m' < m ∧ W (i + 1) m' H') ∧ ∀ x H', (Ite K a).yld i H x H' → g x (wipe σ vs) H' fun σ2 H2 => wipe σ2 vs = wipe σ vs ∧ tt σ2 H2 fun b H3 =>
        if b = true then te σ2 H3 fun y H4 => ∃ acc, H4 D = some (.lst acc) ∧ acc.length < sizeLine ∧ Nx (upd H4 D (.lst (acc ++ [y]))) else Nx H3) := by
  refine ⟨fun i m H => Pv i H ∧ i ≤ xs.length ∧ m + i = xs.length, ⟨xs.length, start, Nat.zero_le _, rfl⟩, fun i m H hW => ?_⟩
  obtain ⟨hp, hi, hm⟩ := hW
  have hq := still i H hp
  rcases Nat.lt_or_ge i xs.length with lt | ge
  · exact .inr ⟨⟨xs, xs[i], hq, List.getElem?_eq_getElem lt⟩, Pv (i + 1), fun H' hp' => ⟨m - 1, by omega, hp', by omega, by omega⟩, fun v H' hy => by
      obtain ⟨T, x, rfl, nT, rfl, fx⟩ := hy
      exact turn i x T H (fx xs hq) hp nT⟩
  · have ei : i = xs.length := by omega
    subst ei
    exact .inl ⟨⟨xs, hq, Nat.le_refl _⟩, fin H hp⟩
/-- what a deed's comprehension has made: G1 what the asker knows, Hc the heap ahead of it -/
structure Made (G Hc G1 H : Hp) (D : Addr) (F : Addr → Prop) (us : List V) (ds : List PyData) : Prop where
  g1 : Same G G1
  sub : Same G1 H
  hc : Same Hc H
  out : ∀ b, F b → G1 b = none
  there : ∀ b, F b → ∃ o, Hc b = some o
  gD : G1 D = none
  nD : Hc D = none
  eD : H D = some (.lst us)
  all : DhAll G1 us ds
theorem Made.step {G Hc G1 H : Hp} {D T t : Addr} {F : Addr → Prop} {us : List V} {ds : List PyData} {o : HO} {zs : List V} {es : List PyData} (m : Made G Hc G1 H D F us ds) (nT : H T = none) (nt : upd H T o t = none) (h : ∀ G2, DhAll G2 zs es) :
    Made G Hc (upd G1 t (.tup zs)) (upd (upd (upd H T o) t (.tup zs)) D (.lst (us ++ [.ref t]))) D F (us ++ [.ref t]) (ds ++ [.tuple es]) := by
  have tT : t ≠ T := fun e => by
    rw [e, upd_same] at nt
    cases nt
  have nt2 : H t = none := by
    rw [upd_ne tT] at nt
    exact nt
  have gt : G1 t = none := Same.free m.sub nt2
  have gT : G1 T = none := Same.free m.sub nT
  have ct : Hc t = none := Same.free m.hc nt2
  have cT : Hc T = none := Same.free m.hc nT
  have Dt : D ≠ t := ne_of_none m.eD nt2
  have DT : D ≠ T := ne_of_none m.eD nT
  refine ⟨m.g1.trans (same_upd gt), fun b u e => ?_, fun b u e => ?_, fun b fb => ?_, m.there, by rw [upd_ne Dt]; exact m.gD, m.nD, upd_same, ?_⟩
  · by_cases hb : b = t
    · subst hb
      rw [upd_same] at e
      rw [upd_ne Dt.symm, upd_same]
      exact e
    · rw [upd_ne hb] at e
      have bD : b ≠ D := ne_of_none e m.gD
      have bT : b ≠ T := ne_of_none e gT
      rw [upd_ne bD, upd_ne hb, upd_ne bT]
      exact m.sub _ _ e
  · rw [upd_ne (ne_of_none e m.nD), upd_ne (ne_of_none e ct), upd_ne (ne_of_none e cT)]
    exact m.hc _ _ e
  · obtain ⟨u, e⟩ := m.there b fb
    rw [upd_ne (ne_of_none e ct)]
    exact m.out b fb
  · exact (m.all.same (same_upd gt)).snoc (.tup upd_same (h _))
theorem Made.step0 {G Hc G1 H : Hp} {D t : Addr} {F : Addr → Prop} {us : List V} {ds : List PyData} {zs : List V} {es : List PyData} (m : Made G Hc G1 H D F us ds) (nt : H t = none) (h : ∀ G2, DhAll G2 zs es) :
    Made G Hc (upd G1 t (.tup zs)) (upd (upd H t (.tup zs)) D (.lst (us ++ [.ref t]))) D F (us ++ [.ref t]) (ds ++ [.tuple es]) := by
  have gt : G1 t = none := Same.free m.sub nt
  have ct : Hc t = none := Same.free m.hc nt
  have Dt : D ≠ t := ne_of_none m.eD nt
  refine ⟨m.g1.trans (same_upd gt), fun b u e => ?_, fun b u e => ?_, fun b fb => ?_, m.there, by rw [upd_ne Dt]; exact m.gD, m.nD, upd_same, ?_⟩
  · by_cases hb : b = t
    · subst hb
      rw [upd_same] at e
      rw [upd_ne Dt.symm, upd_same]
      exact e
    · rw [upd_ne hb] at e
      have bD : b ≠ D := ne_of_none e m.gD
      rw [upd_ne bD, upd_ne hb]
      exact m.sub _ _ e
  · rw [upd_ne (ne_of_none e m.nD), upd_ne (ne_of_none e ct)]
    exact m.hc _ _ e
  · obtain ⟨u, e⟩ := m.there b fb
    rw [upd_ne (ne_of_none e ct)]
    exact m.out b fb
  · exact (m.all.same (same_upd gt)).snoc (.tup upd_same (h _))
theorem Made.grow {G Hc G1 H H' : Hp} {D : Addr} {F : Addr → Prop} {us : List V} {ds : List PyData} (m : Made G Hc G1 H D F us ds) (s : Same H H') : Made G Hc G1 H' D F us ds :=
  ⟨m.g1, m.sub.trans s, m.hc.trans s, m.out, m.there, m.gD, m.nD, s _ _ m.eD, m.all⟩
/-- what the asker knows at last -/
theorem Made.view {K : PySem.W.Frag} {C : Addr} {R : Rep K C} {G Hc G1 H : Hp} {D p : Addr} {w : Int} {h : Nat} {xs : List Int} {F : Addr → Prop} {us : List V} {ds : List PyData} (m : Made G Hc G1 H D F us ds) (l : R.Lad H p w h xs F) : View R (upd G1 D (.lst us)) H p w h xs F :=
  ⟨l, fun c u e => by
    by_cases hc : c = D
    · subst hc
      rw [upd_same] at e
      rw [← e]
      exact m.eD
    · rw [upd_ne hc] at e
      exact m.sub _ _ e, fun c fc => by
    have hc : c ≠ D := fun z => by
      obtain ⟨o, e⟩ := m.there c fc
      rw [z, m.nD] at e
      cases e
    rw [upd_ne hc]
    exact m.out c fc⟩
/-! ### the next one on a level, by the row's places -/
theorem lt_place {xs : List Int} (r : xs.Pairwise (· < ·)) {n : Int} {i : Nat} (h : i < xs.length) : i < placeN xs n ↔ xs.getD i 0 < n := by
  have hl := placeN_le xs n
  constructor
  · intro c
    have m : xs.getD i 0 ∈ xs.take (placeN xs n) := by
      rw [getD_eq h]
      exact List.mem_take_iff_getElem.mpr ⟨i, by omega, rfl⟩
    rw [← filt_place r] at m
    exact of_decide_eq_true (List.mem_filter.mp m).2
  · intro c
    have m : xs.getD i 0 ∈ xs.filter fun x => decide (x < n) := List.mem_filter.mpr ⟨mem_at h, decide_eq_true c⟩
    rw [filt_place r] at m
    obtain ⟨j, hj, e⟩ := List.mem_take_iff_getElem.mp m
    have j1 : j < xs.length := by omega
    have j2 : j < placeN xs n := by omega
    have e2 : xs.getD j 0 = xs.getD i 0 := by rw [getD_eq j1, e]
    rcases Nat.lt_trichotomy i j with c2 | c2 | c2
    · have := rise_getD r c2 j1
      omega
    · omega
    · have := rise_getD r c2 h
      omega
/-- the first number of the block behind x's -/
def behindN (w : Int) (l : Nat) (x : Int) : Int := x / w ^ l * w ^ l + w ^ l
def reachN (w : Int) (l : Nat) (xs : List Int) (i : Nat) : Nat := placeN xs (behindN w l (xs.getD i 0))
theorem lt_behind {w : Int} (hw : 2 ≤ w) {l : Nat} {x y : Int} : y < behindN w l x ↔ y / w ^ l ≤ x / w ^ l := by
  have p := pow_pos' hw l
  unfold behindN
  have e : x / w ^ l * w ^ l + w ^ l = (x / w ^ l + 1) * w ^ l := by rw [Int.add_mul, Int.one_mul]
  rw [e, ← Int.ediv_lt_iff_lt_mul p]
  omega
theorem reach_gt {w : Int} (hw : 2 ≤ w) {l : Nat} {xs : List Int} (r : xs.Pairwise (· < ·)) {i : Nat} (h : i < xs.length) : i < reachN w l xs i := (lt_place r h).mpr ((lt_behind hw).mpr (Int.le_refl _))
theorem reach_le (w : Int) (l : Nat) (xs : List Int) (i : Nat) : reachN w l xs i ≤ xs.length := placeN_le _ _
theorem next_reach {w : Int} (hw : 2 ≤ w) {l : Nat} {xs : List Int} (r : xs.Pairwise (· < ·)) {i : Nat} (h : i < xs.length) : nextO w l xs (xs.getD i 0) = xs[reachN w l xs i]? := by
  have p := pow_pos' hw l
  have gt := reach_gt hw (l := l) r h
  have le := reach_le w l xs i
  have mono : ∀ {a b : Nat}, a ≤ b → b < xs.length → xs.getD a 0 / w ^ l ≤ xs.getD b 0 / w ^ l := fun {a b} ab bl => by
    rcases Nat.lt_or_ge a b with c | c
    · exact Int.ediv_le_ediv p (Int.le_of_lt (rise_getD r c bl))
    · have : a = b := by omega
      rw [this]
      exact Int.le_refl _
  have same : ∀ k, i ≤ k → k < reachN w l xs i → xs.getD k 0 / w ^ l = xs.getD i 0 / w ^ l := fun k k1 k2 => by
    have kl : k < xs.length := by omega
    have a1 := (lt_behind hw).mp ((lt_place r kl).mp k2)
    have a2 := mono k1 kl
    omega
  rw [nextO_idx r h, plac_next gt le (fun k k1 k2 => by rw [same k (by omega) k2, same (k - 1) (by omega) (by omega)]) (fun lt e => by
    have a1 : ¬ xs.getD (reachN w l xs i) 0 < behindN w l (xs.getD i 0) := fun z => absurd ((lt_place r lt).mpr z) (Nat.lt_irrefl _)
    rw [same (reachN w l xs i - 1) (by omega) (by omega)] at e
    exact a1 ((lt_behind hw).mpr (by omega)))]
  by_cases c : reachN w l xs i < xs.length
  · rw [if_pos c, List.getElem?_eq_getElem c]
    show some (xs.getD (reachN w l xs i) 0) = _
    rw [getD_eq c]
  · rw [if_neg c, List.getElem?_eq_none (by omega)]
    rfl
/-- the first number of a block, and who stands there -/
def beginN (w : Int) (l : Nat) (x : Int) : Int := x / w ^ l * w ^ l
theorem begin_le {w : Int} (hw : 2 ≤ w) {l : Nat} {x y : Int} : beginN w l x ≤ y ↔ x / w ^ l ≤ y / w ^ l := by
  have p := pow_pos' hw l
  unfold beginN
  rw [← Int.le_ediv_iff_mul_le p]
theorem lev_begin {w : Int} (hw : 2 ≤ w) {l : Nat} {xs : List Int} (r : xs.Pairwise (· < ·)) {n : Int} : n ∈ levL w l xs ↔ xs[placeN xs (beginN w l n)]? = some n := by
  rw [mem_lev hw r, ← aboveEq_at r]
  constructor
  · rintro ⟨hn, ld⟩
    have mn : n ∈ xs.filter fun x => decide (beginN w l n ≤ x) := List.mem_filter.mpr ⟨hn, decide_eq_true ((begin_le hw).mpr (Int.le_refl _))⟩
    cases hh : (xs.filter fun x => decide (beginN w l n ≤ x)).head? with
    | none =>
      rw [List.head?_eq_none_iff] at hh
      rw [hh] at mn
      cases mn
    | some z =>
      obtain ⟨mz, lz⟩ := head_min (r.filter _) hh
      have zn := lz n mn
      have mz2 := List.mem_filter.mp mz
      have z1 := (begin_le hw).mp (of_decide_eq_true mz2.2)
      have z2 : z / w ^ l ≤ n / w ^ l := Int.ediv_le_ediv (pow_pos' hw l) zn
      by_cases c : z < n
      · exact absurd (by omega) (ld z mz2.1 c)
      · rw [show z = n by omega]
  · intro hh
    obtain ⟨mz, lz⟩ := head_min (r.filter _) hh
    refine ⟨(List.mem_filter.mp mz).1, fun y hy lt e => ?_⟩
    have := lz y (List.mem_filter.mpr ⟨hy, decide_eq_true ((begin_le hw).mpr (by omega))⟩)
    omega
/-- how far it is to the next one -/
theorem gap_reach {w : Int} (hw : 2 ≤ w) {l : Nat} {xs : List Int} (r : xs.Pairwise (· < ·)) {i : Nat} (h : i < xs.length) : (gapN w l xs (xs.getD i 0) : Int) = (reachN w l xs i : Int) - (i : Int) := by
  have gt := reach_gt hw (l := l) r h
  have le := reach_le w l xs i
  unfold gapN
  rw [next_reach hw r h]
  by_cases c : reachN w l xs i < xs.length
  · rw [List.getElem?_eq_getElem c]
    have z := place_gap (xs.getD i 0) (xs.getD (reachN w l xs i) 0) (Int.le_of_lt (rise_getD r gt c)) xs
    rw [placeN_at r h, placeN_at r c] at z
    rw [getD_eq c] at z
    show ((xs.filter fun x => decide (xs.getD i 0 ≤ x) && decide (x < xs[reachN w l xs i])).length : Int) = _
    omega
  · rw [List.getElem?_eq_none (by omega)]
    have e : (xs.filter fun x => decide (xs.getD i 0 ≤ x) && true) = xs.filter fun x => decide (xs.getD i 0 ≤ x) := List.filter_congr fun x _ => Bool.and_true _
    have z := place_rest (xs.getD i 0) xs
    rw [placeN_at r h] at z
    show ((xs.filter fun x => decide (xs.getD i 0 ≤ x) && true).length : Int) = _
    rw [e]
    omega
/-- a step of a trail, by the places -/
theorem trail_idx {w : Int} (hw : 2 ≤ w) {xs : List Int} (r : xs.Pairwise (· < ·)) (n : Int) (l : Nat) {i : Nat} (h : i < xs.length) : trailC w xs n l (xs.getD i 0) = (l, xs.getD i 0) ::
    if reachN w l xs i < placeN xs (n + 1) then trailC w xs n l (xs.getD (reachN w l xs i) 0) else downT w xs n l (xs.getD i 0) := by
  have pl := placeN_le xs (n + 1)
  rw [trailC_step r, next_reach hw r h]
  congr 1
  by_cases c : reachN w l xs i < xs.length
  · rw [List.getElem?_eq_getElem c, getD_eq c]
    show (if xs[reachN w l xs i] ≤ n then _ else _) = _
    have z := lt_place r (n := n + 1) c
    rw [getD_eq c] at z
    by_cases c2 : reachN w l xs i < placeN xs (n + 1)
    · rw [if_pos c2, if_pos (by have := z.mp c2; omega)]
    · rw [if_neg c2, if_neg fun q => c2 (z.mpr (by omega))]
  · rw [List.getElem?_eq_none (by omega), if_neg (by omega)]
/-- what is left of a trail at a level (one more than it, none at 0) and a place -/
def restW (w : Int) (xs : List Int) (n : Int) (i : Nat) : Nat → List (Nat × Int)
  | 0 => []
  | l + 1 => trailC w xs n l (xs.getD i 0)
theorem restW_step {w : Int} (hw : 2 ≤ w) {xs : List Int} (r : xs.Pairwise (· < ·)) (n : Int) (l : Nat) {i : Nat} (h : i < xs.length) : restW w xs n i (l + 1) = (l, xs.getD i 0) ::
    if reachN w l xs i < placeN xs (n + 1) then restW w xs n (reachN w l xs i) (l + 1) else restW w xs n i l := by
  show trailC w xs n l (xs.getD i 0) = _
  rw [trail_idx hw r n l h]
  cases l <;> rfl
theorem trailR_rest {w : Int} {h : Nat} {xs : List Int} (r : xs.Pairwise (· < ·)) (n : Int) : trailR w h xs n = if placeN xs (n + 1) = 0 then [] else restW w xs n 0 (h + 1) := by
  cases xs with
  | nil =>
    exact (if_pos (show placeN [] (n + 1) = 0 from rfl)).symm
  | cons x rest =>
    have z := lt_place r (n := n + 1) (i := 0) (by simp)
    have z2 : 0 < placeN (x :: rest) (n + 1) ↔ x < n + 1 := z
    show (if x ≤ n then trailC w (x :: rest) n h x else []) = _
    by_cases c : x ≤ n
    · rw [if_pos c, if_neg (by have := z2.mpr (by omega); omega)]
      rfl
    · rw [if_neg c, if_pos (by
        rcases Nat.eq_zero_or_pos (placeN (x :: rest) (n + 1)) with e | e
        · exact e
        · have := z2.mp e
          omega)]
theorem place_next {xs : List Int} (r : xs.Pairwise (· < ·)) {j : Nat} (h : j < xs.length) : placeN xs (xs.getD j 0 + 1) = j + 1 := by
  have a := (lt_place r (n := xs.getD j 0 + 1) h).mpr (by omega)
  have hl := placeN_le xs (xs.getD j 0 + 1)
  rcases Nat.lt_or_ge (j + 1) (placeN xs (xs.getD j 0 + 1)) with c | c
  · have := (lt_place r (n := xs.getD j 0 + 1) (i := j + 1) (by omega)).mp c
    have := rise_getD r (show j < j + 1 by omega) (show j + 1 < xs.length by omega)
    omega
  · omega
theorem belowEq_at {xs : List Int} (r : xs.Pairwise (· < ·)) (n : Int) : belowEq xs n = if placeN xs (n + 1) = 0 then none else xs[placeN xs (n + 1) - 1]? := by
  rw [← belowO_at r (n + 1)]
  unfold belowEq belowO
  refine congrArg List.getLast? (List.filter_congr fun x _ => ?_)
  by_cases c : x ≤ n
  · rw [decide_eq_true c, decide_eq_true (by omega)]
  · rw [decide_eq_false c, decide_eq_false (by omega)]
/-- a comprehension over a dict's keys, the dict being locked -/
theorem lc_keys {d : Addr} {o : Obj} {kvs : List (Key × V)} {g : TG} {tt : TT} {te : TE} {vs : List Nat} {σ : L2.St} {H1 : Hp} {D : Addr} {Qd : Hp → Prop} (Pv : Nat → Hp → Prop) (start : Pv 0 (upd H1 D (.lst [])))
    (still : ∀ i H, Pv i H → H d = some (.frz o (.dK kvs)))
    (turn : ∀ (i : Nat) (k : Key) (v : V) (H : Hp), kvs[i]? = some (k, v) → Pv i H → g (kV k) (wipe σ vs) H fun σ2 H2 => wipe σ2 vs = wipe σ vs ∧ tt σ2 H2 fun b H3 =>
      if b = true then te σ2 H3 fun y H4 => ∃ acc, H4 D = some (.lst acc) ∧ acc.length < sizeLine ∧ Pv (i + 1) (upd H4 D (.lst (acc ++ [y]))) else Pv (i + 1) H3) (fin : ∀ H, Pv kvs.length H → Qd H) :
    ∃ W : Nat → Nat → Hp → Prop, (∃ m, W 0 m (upd H1 D (.lst []))) ∧ ∀ i m H, W i m H →
      ((Itk d o kvs).stop i H ∧ Qd H) ∨ ((Itk d o kvs).go i H ∧ ∃ Nx : Hp → Prop, (∀ H', Nx H' → ∃ m', m' < m ∧ W (i + 1) m' H') ∧ ∀ x H', (Itk d o kvs).yld i H x H' → g x (wipe σ vs) H' fun σ2 H2 => wipe σ2 vs = wipe σ vs ∧ tt σ2 H2 fun b H3 =>
        if b = true then te σ2 H3 fun y H4 => ∃ acc, H4 D = some (.lst acc) ∧ acc.length < sizeLine ∧ Nx (upd H4 D (.lst (acc ++ [y]))) else Nx H3) := by
  refine ⟨fun i m H => Pv i H ∧ i ≤ kvs.length ∧ m + i = kvs.length, ⟨kvs.length, start, Nat.zero_le _, rfl⟩, fun i m H hW => ?_⟩
  obtain ⟨hp, hi, hm⟩ := hW
  have hq := still i H hp
  rcases Nat.lt_or_ge i kvs.length with lt | ge
  · exact .inr ⟨⟨hq, lt⟩, Pv (i + 1), fun H' hp' => ⟨m - 1, by omega, hp', by omega, by omega⟩, fun x H' hy => by
      obtain ⟨rfl, k, v, e, rfl⟩ := hy
      exact turn i k v _ e hp⟩
  · have ei : i = kvs.length := by omega
    subst ei
    exact .inl ⟨⟨hq, Nat.le_refl _⟩, fin H hp⟩
/-- a lock that is taken off -/
theorem same_unlock {H H' : Hp} {e : Addr} {u : HO} {od : Obj} (he : H e = some u) (s : Same (upd H e (.frz od u)) H') : Same H (upd H' e u) := fun b o eb => by
  by_cases c : b = e
  · subst c
    rw [upd_same, ← eb, he]
  · rw [upd_ne c]
    refine s _ _ ?_
    rw [upd_ne c]
    exact eb
theorem dkv_at {ns : List Int} {i : Nat} {k : Key} {v : V} (h : (dkv ns)[i]? = some (k, v)) : i < ns.length ∧ k = Sum.inl (ns.getD i 0) := by
  unfold dkv at h
  rw [List.getElem?_map] at h
  obtain ⟨x, hx, e⟩ := Option.map_eq_some_iff.mp h
  obtain ⟨hi, e2⟩ := List.getElem?_eq_some_iff.mp hx
  cases e
  exact ⟨hi, by rw [getD_eq hi, e2]⟩
theorem take_next (p : Int → Bool) {xs : List Int} {i : Nat} (h : i < xs.length) : (xs.take (i + 1)).filter p = (xs.take i).filter p ++ if p (xs.getD i 0) = true then [xs.getD i 0] else [] := by
  rw [List.take_succ, List.getElem?_eq_getElem h, List.filter_append, getD_eq h]
  congr 1
  show ([xs[i]].filter p) = _
  rw [List.filter_cons]
  split <;> rfl
/-- .. and one more object that is listed -/
theorem Made.add {G Hc G1 H : Hp} {D t : Addr} {F : Addr → Prop} {us : List V} {ds : List PyData} {o : HO} {d : PyData} (m : Made G Hc G1 H D F us ds) (nt : H t = none) (h : Dh (upd G1 t o) (.ref t) d) :
    Made G Hc (upd G1 t o) (upd (upd H t o) D (.lst (us ++ [.ref t]))) D F (us ++ [.ref t]) (ds ++ [d]) := by
  have gt : G1 t = none := Same.free m.sub nt
  have ct : Hc t = none := Same.free m.hc nt
  have Dt : D ≠ t := ne_of_none m.eD nt
  refine ⟨m.g1.trans (same_upd gt), fun b u e => ?_, fun b u e => ?_, fun b fb => ?_, m.there, by rw [upd_ne Dt]; exact m.gD, m.nD, upd_same, ?_⟩
  · by_cases hb : b = t
    · subst hb
      rw [upd_same] at e
      rw [upd_ne Dt.symm, upd_same]
      exact e
    · rw [upd_ne hb] at e
      have bD : b ≠ D := ne_of_none e m.gD
      rw [upd_ne bD, upd_ne hb]
      exact m.sub _ _ e
  · rw [upd_ne (ne_of_none e m.nD), upd_ne (ne_of_none e ct)]
    exact m.hc _ _ e
  · obtain ⟨u, e⟩ := m.there b fb
    rw [upd_ne (ne_of_none e ct)]
    exact m.out b fb
  · exact (m.all.same (same_upd gt)).snoc h
structure Txt (K : PySem.W.Frag) (mg : Str → Option Value) : Type where
  f_power : Addr
  fd_power : FuncData
  F_power : Fun K "power" "power" s_power f_power fd_power
  bd_power : Binds K fd_power ["width", "level"] []
  g_power : mg "power" = some (.ref f_power)
  f_block : Addr
  fd_block : FuncData
  F_block : Fun K "block" "block" s_block f_block fd_block
  bd_block : Binds K fd_block ["width", "level", "number"] []
  g_block : mg "block" = some (.ref f_block)
  f_thinned : Addr
  fd_thinned : FuncData
  F_thinned : Fun K "thinned" "thinned" s_thinned f_thinned fd_thinned
  bd_thinned : Binds K fd_thinned ["width", "level", "row"] []
  g_thinned : mg "thinned" = some (.ref f_thinned)
  f_tall : Addr
  fd_tall : FuncData
  F_tall : Fun K "tall" "tall" s_tall f_tall fd_tall
  bd_tall : Binds K fd_tall ["width", "high", "before", "number"] []
  g_tall : mg "tall" = some (.ref f_tall)
  f_ladder_init : Addr
  fd_ladder_init : FuncData
  F_ladder_init : Fun K "__init__" "Ladder.__init__" s_ladder_init f_ladder_init fd_ladder_init
  bd_ladder_init : Binds K fd_ladder_init ["self", "width", "high"] []
  f_ladder_put : Addr
  fd_ladder_put : FuncData
  F_ladder_put : Fun K "put" "Ladder.put" s_ladder_put f_ladder_put fd_ladder_put
  bd_ladder_put : Binds K fd_ladder_put ["self", "number"] []
  f_ladder_take : Addr
  fd_ladder_take : FuncData
  F_ladder_take : Fun K "take" "Ladder.take" s_ladder_take f_ladder_take fd_ladder_take
  bd_ladder_take : Binds K fd_ladder_take ["self", "number"] []
  f_ladder_has : Addr
  fd_ladder_has : FuncData
  F_ladder_has : Fun K "has" "Ladder.has" s_ladder_has f_ladder_has fd_ladder_has
  bd_ladder_has : Binds K fd_ladder_has ["self", "number"] []
  f_ladder_row : Addr
  fd_ladder_row : FuncData
  F_ladder_row : Fun K "row" "Ladder.row" s_ladder_row f_ladder_row fd_ladder_row
  bd_ladder_row : Binds K fd_ladder_row ["self"] []
  f_ladder_level : Addr
  fd_ladder_level : FuncData
  F_ladder_level : Fun K "level" "Ladder.level" s_ladder_level f_ladder_level fd_ladder_level
  bd_ladder_level : Binds K fd_ladder_level ["self", "level"] []
  f_ladder_ahead : Addr
  fd_ladder_ahead : FuncData
  F_ladder_ahead : Fun K "ahead" "Ladder.ahead" s_ladder_ahead f_ladder_ahead fd_ladder_ahead
  bd_ladder_ahead : Binds K fd_ladder_ahead ["self", "level", "number"] []
  f_ladder_trail : Addr
  fd_ladder_trail : FuncData
  F_ladder_trail : Fun K "trail" "Ladder.trail" s_ladder_trail f_ladder_trail fd_ladder_trail
  bd_ladder_trail : Binds K fd_ladder_trail ["self", "number"] []
  f_ladder_below : Addr
  fd_ladder_below : FuncData
  F_ladder_below : Fun K "below" "Ladder.below" s_ladder_below f_ladder_below fd_ladder_below
  bd_ladder_below : Binds K fd_ladder_below ["self", "number"] []
  f_ladder_above : Addr
  fd_ladder_above : FuncData
  F_ladder_above : Fun K "above" "Ladder.above" s_ladder_above f_ladder_above fd_ladder_above
  bd_ladder_above : Binds K fd_ladder_above ["self", "number"] []
  f_ladder_place : Addr
  fd_ladder_place : FuncData
  F_ladder_place : Fun K "place" "Ladder.place" s_ladder_place f_ladder_place fd_ladder_place
  bd_ladder_place : Binds K fd_ladder_place ["self", "number"] []
  f_ladder_at : Addr
  fd_ladder_at : FuncData
  F_ladder_at : Fun K "at" "Ladder.at" s_ladder_at f_ladder_at fd_ladder_at
  bd_ladder_at : Binds K fd_ladder_at ["self", "place"] []
  f_ladder_way : Addr
  fd_ladder_way : FuncData
  F_ladder_way : Fun K "way" "Ladder.way" s_ladder_way f_ladder_way fd_ladder_way
  bd_ladder_way : Binds K fd_ladder_way ["self", "place"] []
  f_ladder_stretch : Addr
  fd_ladder_stretch : FuncData
  F_ladder_stretch : Fun K "stretch" "Ladder.stretch" s_ladder_stretch f_ladder_stretch fd_ladder_stretch
  bd_ladder_stretch : Binds K fd_ladder_stretch ["self", "low", "high"] []
  f_ladder_counted : Addr
  fd_ladder_counted : FuncData
  F_ladder_counted : Fun K "counted" "Ladder.counted" s_ladder_counted f_ladder_counted fd_ladder_counted
  bd_ladder_counted : Binds K fd_ladder_counted ["self", "low", "high"] []
  f_ladder_check_number : Addr
  fd_ladder_check_number : FuncData
  F_ladder_check_number : Fun K "_check_number" "Ladder._check_number" s_ladder_check_number f_ladder_check_number fd_ladder_check_number
  bd_ladder_check_number : Binds K fd_ladder_check_number ["self", "number"] []
  f_ladder_check_end : Addr
  fd_ladder_check_end : FuncData
  F_ladder_check_end : Fun K "_check_end" "Ladder._check_end" s_ladder_check_end f_ladder_check_end fd_ladder_check_end
  bd_ladder_check_end : Binds K fd_ladder_check_end ["self", "number"] []
  f_ladder_check_level : Addr
  fd_ladder_check_level : FuncData
  F_ladder_check_level : Fun K "_check_level" "Ladder._check_level" s_ladder_check_level f_ladder_check_level fd_ladder_check_level
  bd_ladder_check_level : Binds K fd_ladder_check_level ["self", "level"] []
  f_ladder_check_place : Addr
  fd_ladder_check_place : FuncData
  F_ladder_check_place : Fun K "_check_place" "Ladder._check_place" s_ladder_check_place f_ladder_check_place fd_ladder_check_place
  bd_ladder_check_place : Binds K fd_ladder_check_place ["self", "place"] []
  f_ladder_spot : Addr
  fd_ladder_spot : FuncData
  F_ladder_spot : Fun K "_spot" "Ladder._spot" s_ladder_spot f_ladder_spot fd_ladder_spot
  bd_ladder_spot : Binds K fd_ladder_spot ["self", "number"] []
  f_ladder_at_or_none : Addr
  fd_ladder_at_or_none : FuncData
  F_ladder_at_or_none : Fun K "_at_or_none" "Ladder._at_or_none" s_ladder_at_or_none f_ladder_at_or_none fd_ladder_at_or_none
  bd_ladder_at_or_none : Binds K fd_ladder_at_or_none ["self", "spot"] []
  f_ladder_before : Addr
  fd_ladder_before : FuncData
  F_ladder_before : Fun K "_before" "Ladder._before" s_ladder_before f_ladder_before fd_ladder_before
  bd_ladder_before : Binds K fd_ladder_before ["self", "spot"] []
  f_ladder_begin : Addr
  fd_ladder_begin : FuncData
  F_ladder_begin : Fun K "_begin" "Ladder._begin" s_ladder_begin f_ladder_begin fd_ladder_begin
  bd_ladder_begin : Binds K fd_ladder_begin ["self", "level", "number"] []
  f_ladder_reach : Addr
  fd_ladder_reach : FuncData
  F_ladder_reach : Fun K "_reach" "Ladder._reach" s_ladder_reach f_ladder_reach fd_ladder_reach
  bd_ladder_reach : Binds K fd_ladder_reach ["self", "level", "spot"] []
  f_ladder_heirs : Addr
  fd_ladder_heirs : FuncData
  F_ladder_heirs : Fun K "_heirs" "Ladder._heirs" s_ladder_heirs f_ladder_heirs fd_ladder_heirs
  bd_ladder_heirs : Binds K fd_ladder_heirs ["self", "number"] []
  f_ladder_walk : Addr
  fd_ladder_walk : FuncData
  F_ladder_walk : Fun K "_walk" "Ladder._walk" s_ladder_walk f_ladder_walk fd_ladder_walk
  bd_ladder_walk : Binds K fd_ladder_walk ["self", "last"] []
  f_l_whole : Addr
  fd_l_whole : FuncData
  F_l_whole : Fun K "_law_whole" "_law_whole" s_l_whole f_l_whole fd_l_whole
  bd_l_whole : Binds K fd_l_whole ["_law_found"] []
  g_l_whole : mg "_law_whole" = some (.ref f_l_whole)
  f_l_cell_at : Addr
  fd_l_cell_at : FuncData
  F_l_cell_at : Fun K "_law_cell_at" "_law_cell_at" s_l_cell_at f_l_cell_at fd_l_cell_at
  bd_l_cell_at : Binds K fd_l_cell_at ["_law_script", "_law_k"] []
  g_l_cell_at : mg "_law_cell_at" = some (.ref f_l_cell_at)
  f_l_number : Addr
  fd_l_number : FuncData
  F_l_number : Fun K "_law_number" "_law_number" s_l_number f_l_number fd_l_number
  bd_l_number : Binds K fd_l_number ["_law_cell", "_law_limit"] []
  g_l_number : mg "_law_number" = some (.ref f_l_number)
  f_l_deed : Addr
  fd_l_deed : FuncData
  F_l_deed : Fun K "_law_deed" "_law_deed" s_l_deed f_l_deed fd_l_deed
  bd_l_deed : Binds K fd_l_deed ["_law_ladder", "_law_row", "_law_gone", "_law_cell", "_law_limit"] []
  g_l_deed : mg "_law_deed" = some (.ref f_l_deed)
  f_l_missing : Addr
  fd_l_missing : FuncData
  F_l_missing : Fun K "_law_missing" "_law_missing" s_l_missing f_l_missing fd_l_missing
  bd_l_missing : Binds K fd_l_missing ["_law_ladder", "_law_number_here"] []
  g_l_missing : mg "_law_missing" = some (.ref f_l_missing)
  f_l_no_place : Addr
  fd_l_no_place : FuncData
  F_l_no_place : Fun K "_law_no_place" "_law_no_place" s_l_no_place f_l_no_place fd_l_no_place
  bd_l_no_place : Binds K fd_l_no_place ["_law_ladder", "_law_place"] []
  g_l_no_place : mg "_law_no_place" = some (.ref f_l_no_place)
  f_l_gap : Addr
  fd_l_gap : FuncData
  F_l_gap : Fun K "_law_gap" "_law_gap" s_l_gap f_l_gap fd_l_gap
  bd_l_gap : Binds K fd_l_gap ["_law_row", "_law_number_here", "_law_found"] []
  g_l_gap : mg "_law_gap" = some (.ref f_l_gap)
  f_l_way : Addr
  fd_l_way : FuncData
  F_l_way : Fun K "_law_way" "_law_way" s_l_way f_l_way fd_l_way
  bd_l_way : Binds K fd_l_way ["_law_ladder", "_law_row", "_law_place"] []
  g_l_way : mg "_law_way" = some (.ref f_l_way)
  f_l_stretch : Addr
  fd_l_stretch : FuncData
  F_l_stretch : Fun K "_law_stretch" "_law_stretch" s_l_stretch f_l_stretch fd_l_stretch
  bd_l_stretch : Binds K fd_l_stretch ["_law_ladder", "_law_row", "_law_low", "_law_high"] []
  g_l_stretch : mg "_law_stretch" = some (.ref f_l_stretch)
  f_l_refused : Addr
  fd_l_refused : FuncData
  F_l_refused : Fun K "_law_refused" "_law_refused" s_l_refused f_l_refused fd_l_refused
  bd_l_refused : Binds K fd_l_refused ["_law_ladder", "_law_low", "_law_high"] []
  g_l_refused : mg "_law_refused" = some (.ref f_l_refused)
  f_l_filled : Addr
  fd_l_filled : FuncData
  F_l_filled : Fun K "_law_filled" "_law_filled" s_l_filled f_l_filled fd_l_filled
  bd_l_filled : Binds K fd_l_filled ["_law_script", "_law_ladder", "_law_limit"] []
  g_l_filled : mg "_law_filled" = some (.ref f_l_filled)
  b_all : mg "all" = none
  b_bool : mg "bool" = none
  b_enumerate : mg "enumerate" = none
  b_int : mg "int" = none
  b_isinstance : mg "isinstance" = none
  b_len : mg "len" = none
  b_list : mg "list" = none
  b_min : mg "min" = none
  b_range : mg "range" = none
  b_sorted : mg "sorted" = none
  b_tuple : mg "tuple" = none
  c_Ladder : Addr
  x_Ladder : mg "Ladder" = some (.ref c_Ladder)
  cl_Ladder : Cls K c_Ladder
  mk_Ladder : Mk K c_Ladder f_ladder_init
  m_ladder_put : Meth K c_Ladder "put" f_ladder_put
  m_ladder_take : Meth K c_Ladder "take" f_ladder_take
  m_ladder_has : Meth K c_Ladder "has" f_ladder_has
  m_ladder_row : Meth K c_Ladder "row" f_ladder_row
  m_ladder_level : Meth K c_Ladder "level" f_ladder_level
  m_ladder_ahead : Meth K c_Ladder "ahead" f_ladder_ahead
  m_ladder_trail : Meth K c_Ladder "trail" f_ladder_trail
  m_ladder_below : Meth K c_Ladder "below" f_ladder_below
  m_ladder_above : Meth K c_Ladder "above" f_ladder_above
  m_ladder_place : Meth K c_Ladder "place" f_ladder_place
  m_ladder_at : Meth K c_Ladder "at" f_ladder_at
  m_ladder_way : Meth K c_Ladder "way" f_ladder_way
  m_ladder_stretch : Meth K c_Ladder "stretch" f_ladder_stretch
  m_ladder_counted : Meth K c_Ladder "counted" f_ladder_counted
  m_ladder_check_number : Meth K c_Ladder "_check_number" f_ladder_check_number
  m_ladder_check_end : Meth K c_Ladder "_check_end" f_ladder_check_end
  m_ladder_check_level : Meth K c_Ladder "_check_level" f_ladder_check_level
  m_ladder_check_place : Meth K c_Ladder "_check_place" f_ladder_check_place
  m_ladder_spot : Meth K c_Ladder "_spot" f_ladder_spot
  m_ladder_at_or_none : Meth K c_Ladder "_at_or_none" f_ladder_at_or_none
  m_ladder_before : Meth K c_Ladder "_before" f_ladder_before
  m_ladder_begin : Meth K c_Ladder "_begin" f_ladder_begin
  m_ladder_reach : Meth K c_Ladder "_reach" f_ladder_reach
  m_ladder_heirs : Meth K c_Ladder "_heirs" f_ladder_heirs
  m_ladder_walk : Meth K c_Ladder "_walk" f_ladder_walk
  n_Ladder_width : NoAttr K c_Ladder "width"
  n_Ladder_high : NoAttr K c_Ladder "high"
  n_Ladder_limit : NoAttr K c_Ladder "limit"
  n_Ladder_many : NoAttr K c_Ladder "many"
  n_Ladder__row : NoAttr K c_Ladder "_row"
  c_LadderError : Addr
  x_LadderError : mg "LadderError" = some (.ref c_LadderError)
  c_BadSize : Addr
  x_BadSize : mg "BadSize" = some (.ref c_BadSize)
  c_OutOfRange : Addr
  x_OutOfRange : mg "OutOfRange" = some (.ref c_OutOfRange)
  c_Present : Addr
  x_Present : mg "Present" = some (.ref c_Present)
  c_Missing : Addr
  x_Missing : mg "Missing" = some (.ref c_Missing)
  c_NoLevel : Addr
  x_NoLevel : mg "NoLevel" = some (.ref c_NoLevel)
  c_NoPlace : Addr
  x_NoPlace : mg "NoPlace" = some (.ref c_NoPlace)
  xp_BadSize : PySem.W.excIn K c_BadSize [.type "ValueError", .type "Exception", .type "BaseException", .type "object"] "ValueError.__new__" = true
  kp_BadSize : PySem.W.keepIn K (.ref c_BadSize) = true
  bp_BadSize : PySem.W.subIn K (.ref c_BadSize) (.type "BaseException") = some true
  tp_BadSize : PySem.W.typeIn K (.ref c_BadSize) = some (.type "type")
  xp_OutOfRange : PySem.W.excIn K c_OutOfRange [.type "ValueError", .type "Exception", .type "BaseException", .type "object"] "ValueError.__new__" = true
  kp_OutOfRange : PySem.W.keepIn K (.ref c_OutOfRange) = true
  bp_OutOfRange : PySem.W.subIn K (.ref c_OutOfRange) (.type "BaseException") = some true
  tp_OutOfRange : PySem.W.typeIn K (.ref c_OutOfRange) = some (.type "type")
  xp_Present : PySem.W.excIn K c_Present [.type "ValueError", .type "Exception", .type "BaseException", .type "object"] "ValueError.__new__" = true
  kp_Present : PySem.W.keepIn K (.ref c_Present) = true
  bp_Present : PySem.W.subIn K (.ref c_Present) (.type "BaseException") = some true
  tp_Present : PySem.W.typeIn K (.ref c_Present) = some (.type "type")
  xp_Missing : PySem.W.excIn K c_Missing [.type "ValueError", .type "Exception", .type "BaseException", .type "object"] "ValueError.__new__" = true
  kp_Missing : PySem.W.keepIn K (.ref c_Missing) = true
  bp_Missing : PySem.W.subIn K (.ref c_Missing) (.type "BaseException") = some true
  tp_Missing : PySem.W.typeIn K (.ref c_Missing) = some (.type "type")
  xp_NoLevel : PySem.W.excIn K c_NoLevel [.type "ValueError", .type "Exception", .type "BaseException", .type "object"] "ValueError.__new__" = true
  kp_NoLevel : PySem.W.keepIn K (.ref c_NoLevel) = true
  bp_NoLevel : PySem.W.subIn K (.ref c_NoLevel) (.type "BaseException") = some true
  tp_NoLevel : PySem.W.typeIn K (.ref c_NoLevel) = some (.type "type")
  xp_NoPlace : PySem.W.excIn K c_NoPlace [.type "ValueError", .type "Exception", .type "BaseException", .type "object"] "ValueError.__new__" = true
  kp_NoPlace : PySem.W.keepIn K (.ref c_NoPlace) = true
  bp_NoPlace : PySem.W.subIn K (.ref c_NoPlace) (.type "BaseException") = some true
  tp_NoPlace : PySem.W.typeIn K (.ref c_NoPlace) = some (.type "type")
  exm_BadSize_Missing : PySem.W.exmOne K (.ref c_BadSize) (.ref c_Missing) = some false
  exm_BadSize_NoPlace : PySem.W.exmOne K (.ref c_BadSize) (.ref c_NoPlace) = some false
  exm_BadSize_OutOfRange : PySem.W.exmOne K (.ref c_BadSize) (.ref c_OutOfRange) = some false
  exm_OutOfRange_Missing : PySem.W.exmOne K (.ref c_OutOfRange) (.ref c_Missing) = some false
  exm_OutOfRange_NoPlace : PySem.W.exmOne K (.ref c_OutOfRange) (.ref c_NoPlace) = some false
  exm_OutOfRange_OutOfRange : PySem.W.exmOne K (.ref c_OutOfRange) (.ref c_OutOfRange) = some true
  exm_Present_Missing : PySem.W.exmOne K (.ref c_Present) (.ref c_Missing) = some false
  exm_Present_NoPlace : PySem.W.exmOne K (.ref c_Present) (.ref c_NoPlace) = some false
  exm_Present_OutOfRange : PySem.W.exmOne K (.ref c_Present) (.ref c_OutOfRange) = some false
  exm_Missing_Missing : PySem.W.exmOne K (.ref c_Missing) (.ref c_Missing) = some true
  exm_Missing_NoPlace : PySem.W.exmOne K (.ref c_Missing) (.ref c_NoPlace) = some false
  exm_Missing_OutOfRange : PySem.W.exmOne K (.ref c_Missing) (.ref c_OutOfRange) = some false
  exm_NoLevel_Missing : PySem.W.exmOne K (.ref c_NoLevel) (.ref c_Missing) = some false
  exm_NoLevel_NoPlace : PySem.W.exmOne K (.ref c_NoLevel) (.ref c_NoPlace) = some false
  exm_NoLevel_OutOfRange : PySem.W.exmOne K (.ref c_NoLevel) (.ref c_OutOfRange) = some false
  exm_NoPlace_Missing : PySem.W.exmOne K (.ref c_NoPlace) (.ref c_Missing) = some false
  exm_NoPlace_NoPlace : PySem.W.exmOne K (.ref c_NoPlace) (.ref c_NoPlace) = some true
  exm_NoPlace_OutOfRange : PySem.W.exmOne K (.ref c_NoPlace) (.ref c_OutOfRange) = some false
section
variable {P : Program} {w : World} {K : PySem.W.Frag} {mg : Str → Option Value} {base : Heap}
def sp_ladder_init (T : Txt K mg) (R : Rep K T.c_Ladder) : Sp := fun vs H Q E => ∃ (H0 : Hp) (p dx : Addr) (w h : Int), vs = [.ref p, .int w, .int h] ∧ H = upd (upd H0 dx (.own p)) p (.ins T.c_Ladder dx []) ∧ H0 p = none ∧ H0 dx = none ∧ dx ≠ p ∧
  ((w < 2 ∨ 9 < w ∨ h < 1 ∨ 12 < h) → ∀ H', Same H0 H' → E (.ref T.c_BadSize) none H') ∧
  (∀ l : Nat, h = (l : Int) → 2 ≤ w → w ≤ 9 → 1 ≤ l → l ≤ 12 → ∀ H' F, R.Lad H' p w l [] F → Same H0 H' → (∀ b, F b → H0 b = none) → Q .non H')
def sp_ladder_put (T : Txt K mg) (R : Rep K T.c_Ladder) : Sp := fun vs H Q E => ∃ (p : Addr) (w : Int) (h : Nat) (xs : List Int) (F : Addr → Prop) (G : Hp) (n : Int), vs = [.ref p, .int n] ∧ View R G H p w h xs F ∧ xs.length ≤ 150 ∧
  ((n < 0 ∨ w ^ h ≤ n) → ∀ H', Same H H' → E (.ref T.c_OutOfRange) none H') ∧
  (n ∈ xs → ∀ H', Same H H' → E (.ref T.c_Present) none H') ∧
  (0 ≤ n → n < w ^ h → n ∉ xs → ∀ H' G' F' r vs, View R G' H' p w h (insR n xs) F' → Same G G' → G r = none → G' r = some (.lst vs) → DhAll G' vs (chPut w h xs n) → Q (.ref r) H')
def sp_ladder_take (T : Txt K mg) (R : Rep K T.c_Ladder) : Sp := fun vs H Q E => ∃ (p : Addr) (w : Int) (h : Nat) (xs : List Int) (F : Addr → Prop) (G : Hp) (n : Int), vs = [.ref p, .int n] ∧ View R G H p w h xs F ∧ xs.length ≤ 150 ∧
  ((n < 0 ∨ w ^ h ≤ n) → ∀ H', Same H H' → E (.ref T.c_OutOfRange) none H') ∧
  (0 ≤ n → n < w ^ h → n ∉ xs → ∀ H', Same H H' → E (.ref T.c_Missing) none H') ∧
  (n ∈ xs → ∀ H' G' F' r vs, View R G' H' p w h (remR n xs) F' → Same G G' → G r = none → G' r = some (.lst vs) → DhAll G' vs (chTake w h xs n) → Q (.ref r) H')
def sp_ladder_ahead (T : Txt K mg) (R : Rep K T.c_Ladder) : Sp := fun vs H Q E => ∃ (p : Addr) (w : Int) (h : Nat) (xs : List Int) (F : Addr → Prop) (L n : Int), vs = [.ref p, .int L, .int n] ∧ R.Lad H p w h xs F ∧ xs.length ≤ 150 ∧
  ((L < 0 ∨ (h : Int) < L) → ∀ H', Same H H' → E (.ref T.c_NoLevel) none H') ∧
  (∀ l : Nat, L = (l : Int) → l ≤ h → n ∉ levL w l xs → ∀ H', Same H H' → E (.ref T.c_Missing) none H') ∧
  (∀ l : Nat, L = (l : Int) → l ≤ h → n ∈ levL w l xs → ∀ H' t, Same H H' → H t = none → H' t = some (.tup [oV (nextO w l xs n), .int (gapN w l xs n : Int)]) → Q (.ref t) H')
def sp_ladder_at (T : Txt K mg) (R : Rep K T.c_Ladder) : Sp := fun vs H Q E => ∃ (p : Addr) (w : Int) (h : Nat) (xs : List Int) (F : Addr → Prop) (k : Int), vs = [.ref p, .int k] ∧ R.Lad H p w h xs F ∧ xs.length ≤ 150 ∧
  ((k < 0 ∨ (xs.length : Int) ≤ k) → ∀ H', Same H H' → E (.ref T.c_NoPlace) none H') ∧ (∀ j : Nat, k = (j : Int) → j < xs.length → ∀ H', Same H H' → Q (.int (xs.getD j 0)) H')
/-- a new list of data is handed out, which the law keeps -/
def Gives {K : PySem.W.Frag} {C : Addr} (R : Rep K C) (G H : Hp) (p : Addr) (w : Int) (h : Nat) (xs : List Int) (F : Addr → Prop) (ds : List PyData) (Q : VK) : Prop :=
  ∀ H' G' r vs, View R G' H' p w h xs F → Same G G' → Same H H' → H r = none → G r = none → G' r = some (.lst vs) → DhAll G' vs ds → Q (.ref r) H'
def sp_ladder_way (T : Txt K mg) (R : Rep K T.c_Ladder) : Sp := fun vs H Q E => ∃ (p : Addr) (w : Int) (h : Nat) (xs : List Int) (F : Addr → Prop) (G : Hp) (k : Int), vs = [.ref p, .int k] ∧ View R G H p w h xs F ∧ xs.length ≤ 150 ∧
  ((k < 0 ∨ (xs.length : Int) ≤ k) → ∀ H', Same H H' → E (.ref T.c_NoPlace) none H') ∧ (∀ j : Nat, k = (j : Int) → j < xs.length → Gives R G H p w h xs F ((trailR w h xs (xs.getD j 0)).map stD) Q)
/-- the kept numbers from lo on that are below hi -/
def stretchL (xs : List Int) (lo hi : Int) : List Int := xs.filter fun x => decide (lo ≤ x) && decide (x < hi)
def sp_ladder_stretch (T : Txt K mg) (R : Rep K T.c_Ladder) : Sp := fun vs H Q E => ∃ (p : Addr) (w : Int) (h : Nat) (xs : List Int) (F : Addr → Prop) (lo hi : Int), vs = [.ref p, .int lo, .int hi] ∧ R.Lad H p w h xs F ∧ xs.length ≤ 150 ∧
  ((lo < 0 ∨ w ^ h < lo ∨ hi < 0 ∨ w ^ h < hi) → ∀ H', Same H H' → E (.ref T.c_OutOfRange) none H') ∧
  (0 ≤ lo → lo ≤ w ^ h → 0 ≤ hi → hi ≤ w ^ h → ∀ H' r, Same H H' → H r = none → H' r = some (.lst ((stretchL xs lo hi).map V.int)) → Q (.ref r) H')
def sp_ladder_counted (T : Txt K mg) (R : Rep K T.c_Ladder) : Sp := fun vs H Q E => ∃ (p : Addr) (w : Int) (h : Nat) (xs : List Int) (F : Addr → Prop) (lo hi : Int), vs = [.ref p, .int lo, .int hi] ∧ R.Lad H p w h xs F ∧ xs.length ≤ 150 ∧
  ((lo < 0 ∨ w ^ h < lo ∨ hi < 0 ∨ w ^ h < hi) → ∀ H', Same H H' → E (.ref T.c_OutOfRange) none H') ∧
  (0 ≤ lo → lo ≤ w ^ h → 0 ≤ hi → hi ≤ w ^ h → ∀ H', Same H H' → Q (.int ((stretchL xs lo hi).length : Int)) H')
structure Prog (P : Program) (w : World) (K : PySem.W.Frag) (mg : Str → Option Value) (base : Heap) (T : Txt K mg) (R : Rep K T.c_Ladder) : Prop where
  init : FnOk P w K mg base (L2.CX P w) 20 T.f_ladder_init T.fd_ladder_init ["self", "width", "high"] (sp_ladder_init T R)
  put : FnOk P w K mg base (L2.CX P w) 20 T.f_ladder_put T.fd_ladder_put ["self", "number"] (sp_ladder_put T R)
  take : FnOk P w K mg base (L2.CX P w) 20 T.f_ladder_take T.fd_ladder_take ["self", "number"] (sp_ladder_take T R)
  ahead : FnOk P w K mg base (L2.CX P w) 20 T.f_ladder_ahead T.fd_ladder_ahead ["self", "level", "number"] (sp_ladder_ahead T R)
  at_ : FnOk P w K mg base (L2.CX P w) 20 T.f_ladder_at T.fd_ladder_at ["self", "place"] (sp_ladder_at T R)
  way : FnOk P w K mg base (L2.CX P w) 20 T.f_ladder_way T.fd_ladder_way ["self", "place"] (sp_ladder_way T R)
  stretch : FnOk P w K mg base (L2.CX P w) 20 T.f_ladder_stretch T.fd_ladder_stretch ["self", "low", "high"] (sp_ladder_stretch T R)
  counted : FnOk P w K mg base (L2.CX P w) 20 T.f_ladder_counted T.fd_ladder_counted ["self", "low", "high"] (sp_ladder_counted T R)
/-! ### the promises of the law's own helpers -/
def sp_l_whole (T : Txt K mg) (_ : Rep K T.c_Ladder) : Sp := fun vs H Q _ => ∃ (n : Int), vs = [.int n] ∧ Q (.bl true) H
def sp_l_cell_at (T : Txt K mg) (_ : Rep K T.c_Ladder) : Sp := spCell K
def sp_l_number (T : Txt K mg) (_ : Rep K T.c_Ladder) : Sp := fun vs H Q _ => ∃ (c lim : Int), vs = [.int c, .int lim] ∧ 1 ≤ lim ∧ Q (.int (lawNum c lim)) H
def sp_law (K : PySem.W.Frag) : Sp := fun vs H Q _ => ∃ (a : Addr) (ns : List Int), vs = [.ref a] ∧ SqL K H a (ns.map V.int) ∧ ns.length ≤ 63 ∧ ∀ H', Q (.bl true) H'
def sp_l_missing (T : Txt K mg) (R : Rep K T.c_Ladder) : Sp := fun vs H Q _ => ∃ (p : Addr) (w : Int) (h : Nat) (xs : List Int) (F : Addr → Prop) (n : Int), vs = [.ref p, .int n] ∧ R.Lad H p w h xs F ∧ xs.length ≤ 150 ∧ n ∉ xs ∧ ∀ H', Same H H' → Q (.bl true) H'
def sp_l_no_place (T : Txt K mg) (R : Rep K T.c_Ladder) : Sp := fun vs H Q _ => ∃ (p : Addr) (w : Int) (h : Nat) (xs : List Int) (F : Addr → Prop) (k : Int), vs = [.ref p, .int k] ∧ R.Lad H p w h xs F ∧ xs.length ≤ 150 ∧ (k < 0 ∨ (xs.length : Int) ≤ k) ∧ ∀ H', Same H H' → Q (.bl true) H'
def sp_l_refused (T : Txt K mg) (R : Rep K T.c_Ladder) : Sp := fun vs H Q _ => ∃ (p : Addr) (w : Int) (h : Nat) (xs : List Int) (F : Addr → Prop) (lo hi : Int), vs = [.ref p, .int lo, .int hi] ∧ R.Lad H p w h xs F ∧ xs.length ≤ 150 ∧ (lo < 0 ∨ w ^ h < lo ∨ hi < 0 ∨ w ^ h < hi) ∧ ∀ H', Same H H' → Q (.bl true) H'
def sp_l_gap (T : Txt K mg) (_ : Rep K T.c_Ladder) : Sp := fun vs H Q _ => ∃ (a t : Addr) (xs : List Int) (w n : Int) (l : Nat), vs = [.ref a, .int n, .ref t] ∧ SqL K H a (xs.map V.int) ∧ xs.length ≤ 150 ∧ H t = some (.tup [oV (nextO w l xs n), .int (gapN w l xs n : Int)]) ∧ ∀ H', Same H H' → Q (.bl true) H'
def sp_l_stretch (T : Txt K mg) (R : Rep K T.c_Ladder) : Sp := fun vs H Q _ => ∃ (p a : Addr) (w : Int) (h : Nat) (xs : List Int) (F : Addr → Prop) (lo hi : Int), vs = [.ref p, .ref a, .int lo, .int hi] ∧ R.Lad H p w h xs F ∧ SqL K H a (xs.map V.int) ∧ xs.length ≤ 150 ∧ 0 ≤ lo ∧ lo ≤ w ^ h ∧ 0 ≤ hi ∧ hi ≤ w ^ h ∧ ∀ H', Same H H' → Q (.bl true) H'
def sp_l_way (T : Txt K mg) (R : Rep K T.c_Ladder) : Sp := fun vs H Q _ => ∃ (p a : Addr) (w : Int) (h : Nat) (xs : List Int) (F : Addr → Prop) (j : Nat), vs = [.ref p, .ref a, .int (j : Int)] ∧ R.Lad H p w h xs F ∧ SqL K H a (xs.map V.int) ∧ xs.length ≤ 150 ∧ j < xs.length ∧ ∀ H', Same H H' → Q (.bl true) H'
def sp_l_deed (T : Txt K mg) (R : Rep K T.c_Ladder) : Sp := fun vs H Q _ => ∃ (p d e : Addr) (w : Int) (h : Nat) (xs : List Int) (F : Addr → Prop) (G : Hp) (rw gw : List Int) (c : Int), vs = [.ref p, .ref d, .ref e, .int c, .int (w ^ h)] ∧ View R G H p w h xs F ∧ G d = some (.dK (dkv rw)) ∧ G e = some (.dK (dkv gw)) ∧ d ≠ e ∧ rw.Perm xs ∧ xs.length ≤ 100 ∧ gw.length ≤ 200 ∧
  ∀ H' G' F' xs2 rw2 gw2, View R G' H' p w h xs2 F' → (∀ b o, b ≠ d → b ≠ e → G b = some o → G' b = some o) → G' d = some (.dK (dkv rw2)) → G' e = some (.dK (dkv gw2)) → rw2.Perm xs2 → xs2.length ≤ xs.length + 1 → gw2.length ≤ gw.length + 1 → Q .non H'
def sp_l_filled (T : Txt K mg) (R : Rep K T.c_Ladder) : Sp := fun vs H Q _ => ∃ (a p : Addr) (ns : List Int) (w : Int) (h : Nat) (F : Addr → Prop) (G : Hp), vs = [.ref a, .ref p, .int (w ^ h)] ∧ SqL K G a (ns.map V.int) ∧ ns.length ≤ 63 ∧ View R G H p w h [] F ∧
  ∀ H' G' F' xs rw gw d e t, View R G' H' p w h xs F' → Same G G' → G' d = some (.dK (dkv rw)) → G' e = some (.dK (dkv gw)) → d ≠ e → rw.Perm xs → xs.length ≤ 100 → gw.length ≤ 200 → G' t = some (.tup [.ref d, .ref e]) → Q (.ref t) H'
theorem ok_l_whole (T : Txt K mg) (R : Rep K T.c_Ladder) (PR : Prog P w K mg base T R) : FnOk P w K mg base CX0 1 T.f_l_whole T.fd_l_whole ["_law_found"] (sp_l_whole T R) := by
  refine T.F_l_whole.ok sc_l_whole (fun vs H Q E h => ?_) (fun cdv A outer s H vs Q E hr h => ?_)
  · obtain ⟨n, rfl, _⟩ := h
    rfl
  · obtain ⟨n, rfl, q⟩ := h
    refine ⟨_, (pss_one (ps_ret (pe_and (pe_callB call_isi (by rfl) T.b_isinstance (by decide +kernel) (pa_cons (pv 0) (pa_cons (pe_bltn (v := .ty "int") (by rfl) T.b_int (by decide +kernel) rfl) pa_nil))) (pe_one (pe_not (pe_callB call_isi (by rfl) T.b_isinstance (by decide +kernel) (pa_cons (pv 0) (pa_cons (pe_bltn (v := .ty "bool") (by rfl) T.b_bool (by decide +kernel) rfl) pa_nil)))))))), ?_⟩
    refine ⟨_, rfl, .int n, .ty "int", .type "int", .type "int", true, rfl, .ty _, .base (.int n), kit_ty (by decide +kernel), true, rfl, iteT ?_⟩
    exact ⟨_, rfl, .int n, .ty "bool", .type "int", .type "bool", false, rfl, .ty _, .base (.int n), kit_ty (by decide +kernel), false, rfl, q⟩
theorem ok_l_cell_at (T : Txt K mg) (R : Rep K T.c_Ladder) (PR : Prog P w K mg base T R) : FnOk P w K mg base CX0 1 T.f_l_cell_at T.fd_l_cell_at ["_law_script", "_law_k"] (sp_l_cell_at T R) := by
  refine T.F_l_cell_at.ok sc_l_cell_at (fun vs H Q E h => ?_) (fun cdv A outer s H vs Q E hr h => ?_)
  · obtain ⟨a, ns, j, rfl, _⟩ := h
    rfl
  · obtain ⟨a, ns, j, rfl, hS, q⟩ := h
    refine ⟨_, (pss_cons (ps_if (pt_cmpR op_lt (pv 1) (pe_callB call_len_seq (by rfl) T.b_len PySem.boot_len (pa_cons (pv 0) pa_nil)) (nomark _)) (pss_one (ps_ret (pe_ix ix_list (pv 0) (pv 1) (fun _ _ => rfl)))) pss_nil)
      (pss_one (ps_ret pe_int))), ?_⟩
    refine ⟨_, rfl, _, rfl, a, ns.map V.int, rfl, .inl hS, _, _, rfl, rfl, _, rfl, ite2 (fun e => ?_) (fun e => ?_)⟩
    · have e2 := of_decide_eq_true e
      rw [List.length_map] at e2
      exact ⟨_, rfl, _, rfl, a, _, _, _, rfl, rfl, hS, atI_cell (by omega), q⟩
    · have e2 : ¬ j < ns.length := fun z => e (decide_eq_true (by rw [List.length_map]; omega))
      rw [cell_out e2] at q
      exact q
theorem ok_l_number (T : Txt K mg) (R : Rep K T.c_Ladder) (PR : Prog P w K mg base T R) : FnOk P w K mg base CX0 1 T.f_l_number T.fd_l_number ["_law_cell", "_law_limit"] (sp_l_number T R) := by
  refine T.F_l_number.ok sc_l_number (fun vs H Q E h => ?_) (fun cdv A outer s H vs Q E hr h => ?_)
  · obtain ⟨c, lim, rfl, _⟩ := h
    rfl
  · obtain ⟨c, lim, rfl, h1, q⟩ := h
    refine ⟨_, (pss_cons (ps_if (pt_cmpR op_eq (pe_op op_mod (pv 0) pe_int) pe_int (nomark _)) (pss_one (ps_ret (pe_op op_mod (pe_op op_fdivW (pv 0) pe_int) (pv 1)))) pss_nil)
      (pss_cons (ps_if (pt_cmpR op_eq (pe_op op_mod (pv 0) pe_int) pe_int (nomark _)) (pss_one (ps_ret (pe_op op_mod (pe_op op_fdivW (pv 0) pe_int) (pe_callB (call_min2 rfl) (by rfl) T.b_min (by decide +kernel) (pa_cons (pv 1) (pa_cons pe_int pa_nil)))))) pss_nil)
      (pss_cons (ps_if (pt_cmpR op_eq (pe_op op_mod (pv 0) pe_int) pe_int (nomark _)) (pss_one (ps_ret (pe_op op_sub (pe_op op_sub (pv 1) pe_int) (pe_op op_mod (pe_op op_fdivW (pv 0) pe_int) (pe_callB (call_min2 rfl) (by rfl) T.b_min (by decide +kernel) (pa_cons (pv 1) (pa_cons pe_int pa_nil))))))) pss_nil)
      (pss_one (ps_ret (pe_op op_mod (pe_op op_mul (pe_op op_fdivW (pv 0) pe_int) pe_int) (pv 1))))))), ?_⟩
    have lt4 : (0 : Int) < 4 := by decide
    have mi : 0 < (if (30 : Int) < lim then 30 else lim) := by split <;> omega
    refine ⟨_, rfl, _, _, rfl, rfl, lt4, rfl, _, rfl, ite2 (fun e => ?_) (fun e => ?_)⟩
    · have e2 := V.int.inj (of_decide_eq_true e)
      refine ⟨_, rfl, _, _, rfl, rfl, ⟨by decide, by decide⟩, _, rfl, _, _, rfl, rfl, h1, ?_⟩
      unfold lawNum at q
      rw [if_pos e2] at q
      exact q
    have e2 : ¬ c % 4 = 0 := fun z => e (decide_eq_true (congrArg V.int z))
    refine ⟨_, rfl, _, _, rfl, rfl, lt4, rfl, _, rfl, ite2 (fun f => ?_) (fun f => ?_)⟩
    · have f2 := V.int.inj (of_decide_eq_true f)
      refine ⟨_, rfl, _, _, rfl, rfl, ⟨by decide, by decide⟩, _, rfl, _, _, rfl, _, _, rfl, rfl, mi, ?_⟩
      unfold lawNum at q
      rw [if_neg e2, if_pos f2] at q
      exact q
    have f2 : ¬ c % 4 = 1 := fun z => f (decide_eq_true (congrArg V.int z))
    refine ⟨_, rfl, _, _, rfl, rfl, lt4, rfl, _, rfl, ite2 (fun g => ?_) (fun g => ?_)⟩
    · have g2 := V.int.inj (of_decide_eq_true g)
      refine ⟨_, rfl, _, _, rfl, rfl, _, rfl, _, _, rfl, rfl, ⟨by decide, by decide⟩, _, rfl, _, _, rfl, _, _, rfl, rfl, mi, _, _, rfl, rfl, ?_⟩
      unfold lawNum at q
      rw [if_neg e2, if_neg f2, if_pos g2] at q
      exact q
    have g2 : ¬ c % 4 = 2 := fun z => g (decide_eq_true (congrArg V.int z))
    refine ⟨_, rfl, _, _, rfl, rfl, ⟨by decide, by decide⟩, _, _, rfl, rfl, .inr ⟨by decide, by decide⟩, _, rfl, _, _, rfl, rfl, h1, ?_⟩
    unfold lawNum at q
    rw [if_neg e2, if_neg f2, if_neg g2] at q
    exact q
theorem ok_l_deed (T : Txt K mg) (R : Rep K T.c_Ladder) (PR : Prog P w K mg base T R) : FnOk P w K mg base CX0 21 T.f_l_deed T.fd_l_deed ["_law_ladder", "_law_row", "_law_gone", "_law_cell", "_law_limit"] (sp_l_deed T R) := by
  have G_l_number : FnOk P w K mg base CX0 1 T.f_l_number T.fd_l_number ["_law_cell", "_law_limit"] (sp_l_number T R) := ok_l_number T R PR
  have G_ladder_take := PR.take
  have G_ladder_put := PR.put
  refine T.F_l_deed.ok sc_l_deed (fun vs H Q E h => ?_) (fun cdv A outer s H vs Q E hr h => ?_)
  · obtain ⟨p, d, e, wd, h, xs, F, G, rw, gw, c, rfl, _⟩ := h
    rfl
  · obtain ⟨p, d, e, wd, h, xs, F, G, rw, gw, c, rfl, v, hd, he, de, pm, hlen, glen, q⟩ := h
    refine ⟨_, (pss_cons (ps_set (i := 5) sc_l_deed.nd rfl (.inl rfl) (pe_call G_l_number (hr.mono (by decide)) (by rfl) T.g_l_number T.F_l_number.kp T.bd_l_number .nil pass0 (pa_cons (pe_op op_fdivW (pv 3) pe_int) (pa_cons (pv 4) pa_nil))))
      (Evl.pss_cut (ps_if (PW.pt (pw_and (pt_cmpR op_eq (pe_op op_mod (pv 3) pe_int) pe_int (nomark _)) (pw_and1 (pt_cmpR op_gt (pe_callB call_lenD (by rfl) T.b_len PySem.boot_len (pa_cons (pv 1) pa_nil)) pe_int (nomark _))))) (pss_one (ps_set (i := 5) sc_l_deed.nd rfl (.inl rfl) (pe_ix ix_list (pe_callTy (call_list_dK rfl) (by rfl) T.b_list (by decide +kernel) (pa_cons (pv 1) pa_nil)) (pe_op op_mod (pe_op op_fdivW (pv 3) pe_int) (pe_callB call_lenD (by rfl) T.b_len PySem.boot_len (pa_cons (pv 1) pa_nil))) (fun _ _ => rfl)))) pss_nil)
      (pss_one (ps_if (pt_cmp (pc_din (hu_of hr) (pv 5) (pv 1))) (pss_cons (ps_expr (pe_dpop1 (pv 1) (pv 5) dict_m1))
      (pss_cons (ps_dput (hu_of hr) (pv 2) (pv 5) pe_bl rfl)
      (pss_one (ps_expr (pe_meth (pv 0) T.cl_Ladder T.m_ladder_take G_ladder_take hr T.bd_ladder_take .nil passL (pa_cons (pv 5) pa_nil)))))) (pss_cons (ps_dput (hu_of hr) (pv 1) (pv 5) pe_bl rfl)
      (pss_one (ps_expr (pe_meth (pv 0) T.cl_Ladder T.m_ladder_put G_ladder_put hr T.bd_ladder_put .nil passL (pa_cons (pv 5) pa_nil))))))))), ?_⟩
    have ok := R.ok v.lad
    have pl := pow_ge2 ok.w2 ok.h1
    have hdH := v.sub _ _ hd
    have hlx : rw.length = xs.length := pm.length_eq
    refine ⟨_, rfl, _, _, rfl, rfl, ⟨by decide, by decide⟩, _, rfl, _, _, rfl, by omega, ?_⟩
    have hn0 := lawNum_in (c := c / 3) (lim := wd ^ h) (by omega)
    dsimp only [gName]
    show Evl.tCut _ _ _ [nR p, nR d, nR e, nI c, nI (wd ^ h), nI (lawNum (c / 3) (wd ^ h))] _
    revert hn0
    generalize lawNum (c / 3) (wd ^ h) = n0
    intro hn0
    refine ⟨fun σ H2 => Same H H2 ∧ ∃ n, 0 ≤ n ∧ n < wd ^ h ∧ σ = [nR p, nR d, nR e, nI c, nI (wd ^ h), nI n], ?_, ?_⟩
    · refine ⟨_, rfl, _, _, rfl, rfl, (by show (0 : Int) < 3; decide), rfl, _, rfl, ite2 (fun _ => ?_) (fun _ => ⟨Same.refl _, n0, hn0.1, hn0.2, rfl⟩)⟩
      refine ⟨_, rfl, d, dkv rw, rfl, hdH, _, _, rfl, rfl, _, rfl, ite2 (fun z => ?_) (fun _ => ⟨Same.refl _, n0, hn0.1, hn0.2, rfl⟩)⟩
      have lp : (0 : Int) < (rw.length : Int) := by
        have z2 := of_decide_eq_true z
        rw [dkv_len] at z2
        exact z2
      have e2 : (dkv rw).map (fun kv => kV kv.1) = rw.map V.int := by
        unfold dkv
        rw [List.map_map]
        rfl
      have c1 := Int.emod_nonneg (c / 3) (show (rw.length : Int) ≠ 0 by omega)
      have c2 := Int.emod_lt_of_pos (c / 3) lp
      obtain ⟨j, ej, hj⟩ : ∃ j : Nat, c / 3 % (rw.length : Int) = (j : Int) ∧ j < rw.length := ⟨(c / 3 % (rw.length : Int)).toNat, by omega, by omega⟩
      have mj : rw.getD j 0 ∈ xs := pm.mem_iff.mp (mem_at hj)
      refine ⟨_, rfl, d, dkv rw, rfl, hdH, fun l nl => ?_⟩
      have hd3 := (same_upd (o := .lst ((dkv rw).map fun kv => kV kv.1)) nl) _ _ hdH
      refine ⟨_, rfl, _, _, rfl, rfl, ⟨by decide, by decide⟩, _, rfl, d, dkv rw, rfl, hd3, _, _, rfl, rfl, (by show (0 : Int) < ((dkv rw).length : Int); rw [dkv_len]; exact lp), l, _, _, V.int (rw.getD j 0), rfl, rfl, SqL.of upd_same, ?_, same_upd nl, rw.getD j 0, ok.lo _ mj, ok.hi _ mj, rfl⟩
      rw [e2, dkv_len, ej]
      exact atI_nat (map_at hj)
    rintro σ H2 ⟨s2, n, n0', n1, rfl⟩
    have v2 := v.grow s2
    obtain ⟨dx, fs, hp, _, _, _, _, hm⟩ := R.ins v2.lad
    have hd2 := v2.sub _ _ hd
    have hv := dkv_val n rw
    refine ⟨_, rfl, _, rfl, d, _, rfl, DGet.k (k := Sum.inl n) hd2, _, rfl, ite2 (fun z => ?_) (fun z => ?_)⟩
    · rw [hv] at z
      have m := of_decide_eq_true z
      have mx : n ∈ xs := pm.mem_iff.mp m
      obtain ⟨vv, hvv⟩ : ∃ vv, valV (dkv rw) (Sum.inl n) = some vv := Option.isSome_iff_exists.mp (by rw [hv]; exact z)
      refine ⟨_, rfl, d, rfl, .inl ⟨_, .inl hd2⟩, _, rfl, dkv rw, Sum.inl n, vv, hd2, rfl, hvv, ?_⟩
      rw [dkv_drop]
      have v3 := v2.mut (o := .dK (dkv (rw.filter fun y => !decide (y = n)))) hd
      have he3 : (upd G d (.dK (dkv (rw.filter fun y => !decide (y = n))))) e = some (.dK (dkv gw)) := by rw [upd_ne (Ne.symm de)]; exact he
      obtain ⟨gw2, eg, gl⟩ := dkv_set n gw
      have sz : (dkv gw).length < sizeLine := by
        rw [dkv_len]
        exact small1000 (by omega)
      refine ⟨_, rfl, _, rfl, e, _, rfl, DPut.k (k := Sum.inl n) (v3.sub _ _ he3) sz, ?_⟩
      rw [eg]
      have v4 := v3.mut (o := .dK (dkv gw2)) he3
      obtain ⟨dx3, fs3, hp3, _, _, _, _, hm3⟩ := R.ins v4.lad
      refine ⟨_, rfl, p, dx3, fs3, rfl, hp3, hm3 _ (by decide +kernel), _, rfl, p, wd, h, xs, F, _, n, rfl, v4, by omega, fun z => absurd z (by omega), fun _ _ z => absurd mx z, fun _ H5 G5 F5 r us v5 s5 nr hr db => ?_⟩
      exact q H5 G5 F5 (remR n xs) (rw.filter fun y => !decide (y = n)) gw2 v5 (fun b o hb hb2 eb => s5 _ _ (by rw [upd_ne hb2, upd_ne hb]; exact eb)) (s5 _ _ (by rw [upd_ne de, upd_same])) (s5 _ _ upd_same) (pm.filter _) (Nat.le_succ_of_le (remR_len n xs)) gl
    · rw [hv] at z
      have m : n ∉ rw := fun m => z (decide_eq_true m)
      have mx : n ∉ xs := fun z => m (pm.mem_iff.mpr z)
      have sz : (dkv rw).length < sizeLine := by
        rw [dkv_len]
        exact small1000 (by omega)
      refine ⟨_, rfl, _, rfl, d, _, rfl, DPut.k (k := Sum.inl n) hd2 sz, ?_⟩
      rw [dkv_put m]
      have v3 := v2.mut (o := .dK (dkv (rw ++ [n]))) hd
      have he3 : (upd G d (.dK (dkv (rw ++ [n])))) e = some (.dK (dkv gw)) := by rw [upd_ne (Ne.symm de)]; exact he
      obtain ⟨dx3, fs3, hp3, _, _, _, _, hm3⟩ := R.ins v3.lad
      exact ⟨_, rfl, p, dx3, fs3, rfl, hp3, hm3 _ (by decide +kernel), _, rfl, p, wd, h, xs, F, _, n, rfl, v3, by omega, fun z => absurd z (by omega), fun z => absurd z mx, fun _ _ _ H4 G4 F4 r us v4 s4 nr hr db => q H4 G4 F4 (insR n xs) (rw ++ [n]) gw v4 (fun b o hb _ eb => s4 _ _ (by rw [upd_ne hb]; exact eb)) (s4 _ _ upd_same) (s4 _ _ he3) ((List.perm_append_singleton n rw).trans ((List.Perm.cons n pm).trans (insR_perm mx).symm)) (by rw [insR_len mx]; omega) (Nat.le_succ _)⟩
theorem ok_l_missing (T : Txt K mg) (R : Rep K T.c_Ladder) (PR : Prog P w K mg base T R) : FnOk P w K mg base CX0 21 T.f_l_missing T.fd_l_missing ["_law_ladder", "_law_number_here"] (sp_l_missing T R) := by
  have G_ladder_ahead := PR.ahead
  refine T.F_l_missing.ok sc_l_missing (fun vs H Q E h => ?_) (fun cdv A outer s H vs Q E hr h => ?_)
  · obtain ⟨p, wd, h, xs, F, n, rfl, _⟩ := h
    rfl
  · obtain ⟨p, wd, h, xs, F, n, rfl, hL, hlen, hn, q⟩ := h
    refine ⟨_, (pss_cons (ps_set (i := 2) sc_l_missing.nd rfl (.inl rfl) pe_int)
      (pss_cons (ps_for PassesOwn.never rfl (pi_range1 (by rfl) T.b_range (pa_cons (pe_op op_add (pe_fld (pv 0) rfl) pe_int) pa_nil)) (pg_name (i := 3) sc_l_missing.nd rfl (.inl rfl)) (pss_one (ps_try_only rfl rfl ⟨rfl, by decide, .inl T.x_Missing⟩ takes0 (fun W pn xe tk _ => (pss_one (ps_expr (pe_methS (pv 0) T.cl_Ladder T.m_ladder_ahead G_ladder_ahead hr T.bd_ladder_ahead (fun σ => passAt tk σ) (pa_cons (pv 3) (pa_cons (pv 1) pa_nil)))))) (fun a oe cls dd pn hz hf => (pss_one (ps_set (i := 2) sc_l_missing.nd rfl (.inl rfl) (pe_op op_add (pv 2) pe_int)))))))
      (pss_one (ps_ret (pe_cmpR op_eq (pv 2) (pe_op op_add (pe_fld (pv 0) rfl) pe_int) (nomark _)))))), ?_⟩
    obtain ⟨dx, fs, hp, _, hhigh, _, _, hm⟩ := R.ins hL
    have ok := R.ok hL
    have h12 := ok.h12
    show tSeq _ _ _ [nR p, nI n, nI 0, none] _
    refine ⟨_, rfl, p, _, dx, fs, _, rfl, hp, T.cl_Ladder, T.n_Ladder_high, hhigh, _, _, rfl, rfl, ((h + 1 : Nat) : Int), rfl, by omega, by omega, for_range (lo := 0) (n := h + 1) (tb := fun D σ H => tDrop (tMethS _ _ _ (WE (wOnly _ _ _ _ D)) _ _) D σ H) (fun i σ H' => Same H H' ∧ ∃ y, σ = [nR p, nI n, nI (i : Int), y]) ⟨Same.refl _, none, rfl⟩ ?_ ?_⟩
    · rintro i σ H' hi ⟨s1, y, rfl⟩
      rw [Int.zero_add]
      refine ⟨_, rfl, p, dx, fs, rfl, s1 _ _ hp, hm _ (by decide +kernel), _, rfl, _, rfl, p, wd, h, xs, F, (i : Int), n, rfl, R.same hL s1, hlen, fun z => absurd z (by omega), fun l el hl _ H1 s2 => ⟨true, T.exm_Missing_Missing, fun _ a na => ⟨_, rfl, _, _, rfl, rfl, s1.trans s2, _, rfl⟩, (fun z => nomatch z)⟩, fun l el hl mem => absurd (levL_mem mem) hn⟩
    · rintro σ H' ⟨s1, y, rfl⟩
      refine ⟨_, rfl, _, rfl, p, _, dx, fs, _, rfl, s1 _ _ hp, T.cl_Ladder, T.n_Ladder_high, hhigh, _, _, rfl, rfl, rfl, ?_⟩
      show Q (.bl (decide (V.int ((h + 1 : Nat) : Int) = V.int ((h + 1 : Nat) : Int)))) H'
      rw [decide_eq_true rfl]
      exact q H' s1
theorem ok_l_no_place (T : Txt K mg) (R : Rep K T.c_Ladder) (PR : Prog P w K mg base T R) : FnOk P w K mg base CX0 21 T.f_l_no_place T.fd_l_no_place ["_law_ladder", "_law_place"] (sp_l_no_place T R) := by
  have G_ladder_at := PR.at_
  have G_ladder_way := PR.way
  refine T.F_l_no_place.ok sc_l_no_place (fun vs H Q E h => ?_) (fun cdv A outer s H vs Q E hr h => ?_)
  · obtain ⟨p, wd, h, xs, F, k, rfl, _⟩ := h
    rfl
  · obtain ⟨p, wd, h, xs, F, k, rfl, hL, hlen, hbad, q⟩ := h
    refine ⟨_, (pss_cons (ps_set (i := 2) sc_l_no_place.nd rfl (.inl rfl) pe_int)
      (pss_cons (ps_try_only rfl rfl ⟨rfl, by decide, .inl T.x_NoPlace⟩ takes0 (fun W pn xe tk _ => (pss_one (ps_expr (pe_methS (pv 0) T.cl_Ladder T.m_ladder_at G_ladder_at hr T.bd_ladder_at (fun σ => passAt tk σ) (pa_cons (pv 1) pa_nil))))) (fun a oe cls dd pn hz hf => (pss_one (ps_set (i := 2) sc_l_no_place.nd rfl (.inl rfl) (pe_op op_add (pv 2) pe_int)))))
      (pss_cons (ps_try_only rfl rfl ⟨rfl, by decide, .inl T.x_NoPlace⟩ takes0 (fun W pn xe tk _ => (pss_one (ps_expr (pe_methS (pv 0) T.cl_Ladder T.m_ladder_way G_ladder_way hr T.bd_ladder_way (fun σ => passAt tk σ) (pa_cons (pv 1) pa_nil))))) (fun a oe cls dd pn hz hf => (pss_one (ps_set (i := 2) sc_l_no_place.nd rfl (.inl rfl) (pe_op op_add (pv 2) pe_int)))))
      (pss_one (ps_ret (pe_cmpR op_eq (pv 2) pe_int (nomark _))))))), ?_⟩
    obtain ⟨dx, fs, hp, _, _, _, _, hm⟩ := R.ins hL
    show tSeq _ _ _ [nR p, nI k, nI 0] _
    refine ⟨_, rfl, p, dx, fs, rfl, hp, hm _ (by decide +kernel), _, rfl, p, wd, h, xs, F, k, rfl, hL, hlen, fun _ H1 s1 => ⟨true, T.exm_NoPlace_NoPlace, fun _ a na => ⟨_, rfl, _, _, rfl, rfl, ?_⟩, (fun z => nomatch z)⟩, fun j ej hj => absurd hbad (by omega)⟩
    refine ⟨_, rfl, p, dx, fs, rfl, s1 _ _ hp, hm _ (by decide +kernel), _, rfl, p, wd, h, xs, F, _, k, rfl, View.nothing (R.same hL s1), hlen, fun _ H2 s2 => ⟨true, T.exm_NoPlace_NoPlace, fun _ a na => ⟨_, rfl, _, _, rfl, rfl, ?_⟩, (fun z => nomatch z)⟩, fun j ej hj => absurd hbad (by omega)⟩
    refine ⟨_, rfl, rfl, ?_⟩
    show Q (.bl (decide (V.int 2 = V.int 2))) H2
    rw [decide_eq_true rfl]
    exact q H2 (s1.trans s2)
theorem ok_l_refused (T : Txt K mg) (R : Rep K T.c_Ladder) (PR : Prog P w K mg base T R) : FnOk P w K mg base CX0 21 T.f_l_refused T.fd_l_refused ["_law_ladder", "_law_low", "_law_high"] (sp_l_refused T R) := by
  have G_ladder_stretch := PR.stretch
  have G_ladder_counted := PR.counted
  refine T.F_l_refused.ok sc_l_refused (fun vs H Q E h => ?_) (fun cdv A outer s H vs Q E hr h => ?_)
  · obtain ⟨p, wd, h, xs, F, lo, hi, rfl, _⟩ := h
    rfl
  · obtain ⟨p, wd, h, xs, F, lo, hi, rfl, hL, hlen, hbad, q⟩ := h
    refine ⟨_, (pss_cons (ps_set (i := 3) sc_l_refused.nd rfl (.inl rfl) pe_int)
      (pss_cons (ps_try_only rfl rfl ⟨rfl, by decide, .inl T.x_OutOfRange⟩ takes0 (fun W pn xe tk _ => (pss_one (ps_expr (pe_methS (pv 0) T.cl_Ladder T.m_ladder_stretch G_ladder_stretch hr T.bd_ladder_stretch (fun σ => passAt tk σ) (pa_cons (pv 1) (pa_cons (pv 2) pa_nil)))))) (fun a oe cls dd pn hz hf => (pss_one (ps_set (i := 3) sc_l_refused.nd rfl (.inl rfl) (pe_op op_add (pv 3) pe_int)))))
      (pss_cons (ps_try_only rfl rfl ⟨rfl, by decide, .inl T.x_OutOfRange⟩ takes0 (fun W pn xe tk _ => (pss_one (ps_expr (pe_methS (pv 0) T.cl_Ladder T.m_ladder_counted G_ladder_counted hr T.bd_ladder_counted (fun σ => passAt tk σ) (pa_cons (pv 1) (pa_cons (pv 2) pa_nil)))))) (fun a oe cls dd pn hz hf => (pss_one (ps_set (i := 3) sc_l_refused.nd rfl (.inl rfl) (pe_op op_add (pv 3) pe_int)))))
      (pss_one (ps_ret (pe_cmpR op_eq (pv 3) pe_int (nomark _))))))), ?_⟩
    obtain ⟨dx, fs, hp, _, _, _, _, hm⟩ := R.ins hL
    show tSeq _ _ _ [nR p, nI lo, nI hi, nI 0] _
    refine ⟨_, rfl, p, dx, fs, rfl, hp, hm _ (by decide +kernel), _, rfl, _, rfl, p, wd, h, xs, F, lo, hi, rfl, hL, hlen, fun _ H1 s1 => ⟨true, T.exm_OutOfRange_OutOfRange, fun _ a na => ⟨_, rfl, _, _, rfl, rfl, ?_⟩, (fun z => nomatch z)⟩, fun a b c d => absurd hbad (by omega)⟩
    refine ⟨_, rfl, p, dx, fs, rfl, s1 _ _ hp, hm _ (by decide +kernel), _, rfl, _, rfl, p, wd, h, xs, F, lo, hi, rfl, R.same hL s1, hlen, fun _ H2 s2 => ⟨true, T.exm_OutOfRange_OutOfRange, fun _ a na => ⟨_, rfl, _, _, rfl, rfl, ?_⟩, (fun z => nomatch z)⟩, fun a b c d => absurd hbad (by omega)⟩
    refine ⟨_, rfl, rfl, ?_⟩
    show Q (.bl (decide (V.int 2 = V.int 2))) H2
    rw [decide_eq_true rfl]
    exact q H2 (s1.trans s2)
theorem ok_l_gap (T : Txt K mg) (R : Rep K T.c_Ladder) (PR : Prog P w K mg base T R) : FnOk P w K mg base CX0 2 T.f_l_gap T.fd_l_gap ["_law_row", "_law_number_here", "_law_found"] (sp_l_gap T R) := by
  have G_l_whole : FnOk P w K mg base CX0 1 T.f_l_whole T.fd_l_whole ["_law_found"] (sp_l_whole T R) := ok_l_whole T R PR
  refine T.F_l_gap.ok sc_l_gap (fun vs H Q E h => ?_) (fun cdv A outer s H vs Q E hr h => ?_)
  · obtain ⟨a, t, xs, wd, n, l, rfl, _⟩ := h
    rfl
  · obtain ⟨a, t, xs, wd, n, l, rfl, hA, hlen, ht, q⟩ := h
    refine ⟨_, (pss_cons (ps_if (PW.pt (pw_or (pt_not (pt_val (pe_callB call_isi (by rfl) T.b_isinstance (by decide +kernel) (pa_cons (pv 2) (pa_cons (pe_bltn (v := .ty "tuple") (by rfl) T.b_tuple (by decide +kernel) rfl) pa_nil))))) (pw_or (pt_cmpR op_ne (pe_callB call_len_seq (by rfl) T.b_len PySem.boot_len (pa_cons (pv 2) pa_nil)) pe_int (nomark _)) (pw_or1 (pt_not (pt_val (pe_call G_l_whole hr (by rfl) T.g_l_whole T.F_l_whole.kp T.bd_l_whole .nil pass0 (pa_cons (pe_ix ix_tup (pv 2) pe_int (fun _ _ => rfl)) pa_nil)))))))) (pss_one (ps_ret pe_bl)) pss_nil)
      (pss_cons (ps_if (pt_cmpR op_isN (pe_ix ix_tup (pv 2) pe_int (fun _ _ => rfl)) pe_non (nomark _)) (pss_one (ps_ret (pe_cmpR op_eq (pe_ix ix_tup (pv 2) pe_int (fun _ _ => rfl)) (pe_callB call_len_seq (by rfl) T.b_len PySem.boot_len (pa_cons (pe_lc (own := [("_law_one", 3)]) (g := gName 3) (by rfl) sc_l_gap.nd (pi_list (pv 0)) (blkOk_by (own := [("_law_one", 3)]) (N := ["_law_row", "_law_number_here", "_law_found", "_law_one"]) (sc := defScope s_l_gap) (by decide +kernel)) (fun _ _ _ _ _ => (pg_name (i := 3) sc_l_gap.nd rfl (Or.inl rfl))) (fun _ _ _ _ _ => (pts_one (pt_cmpR op_ge (pv 3) (pv 1) (nomark _)))) (fun _ _ _ _ _ => (pv 3))) pa_nil)) (nomark _)))) pss_nil)
      (pss_cons (ps_if (PW.pt (pw_or (pt_not (pt_val (pe_call G_l_whole hr (by rfl) T.g_l_whole T.F_l_whole.kp T.bd_l_whole .nil pass0 (pa_cons (pe_ix ix_tup (pv 2) pe_int (fun _ _ => rfl)) pa_nil)))) (pw_or1 (pt_cmpR op_notIn_seq (pe_ix ix_tup (pv 2) pe_int (fun _ _ => rfl)) (pv 0) (by rfl))))) (pss_one (ps_ret pe_bl)) pss_nil)
      (pss_one (ps_ret (pe_cmpR op_eq (pe_ix ix_tup (pv 2) pe_int (fun _ _ => rfl)) (pe_callB call_len_seq (by rfl) T.b_len PySem.boot_len (pa_cons (pe_lc (own := [("_law_one", 3)]) (g := gName 3) (by rfl) sc_l_gap.nd (pi_list (pv 0)) (blkOk_by (own := [("_law_one", 3)]) (N := ["_law_row", "_law_number_here", "_law_found", "_law_one"]) (sc := defScope s_l_gap) (by decide +kernel)) (fun _ _ _ _ _ => (pg_name (i := 3) sc_l_gap.nd rfl (Or.inl rfl))) (fun _ _ _ _ _ => (pts_one (PW.pt (pw_and (pt_cmpR op_ge (pv 3) (pv 1) (nomark _)) (pw_and1 (pt_cmpR op_lt (pv 3) (pe_ix (show IxR _ (rIxT K) from ix_tup) (pv 2) pe_int (fun _ _ => rfl)) (nomark _))))))) (fun _ _ _ _ _ => (pv 3))) pa_nil)) (nomark _))))))), ?_⟩
    refine ⟨_, rfl, .ref t, .ty "tuple", .type "tuple", .type "tuple", true, rfl, .ty _, .base (.tup ht), kit_ty (by decide +kernel), true, rfl, iteF ?_⟩
    refine ⟨_, rfl, t, _, rfl, .inr (SqT.of ht), rfl, _, rfl, iteNS rfl ?_⟩
    refine ⟨_, rfl, t, _, 1, _, rfl, rfl, SqT.of ht, atI_nat (j := 1) rfl, _, rfl, true, rfl, iteF ?_⟩
    cases hn : nextO wd l xs n with
    | none =>
      have eg : gapN wd l xs n = (xs.filter fun x => decide (n ≤ x)).length := by
        unfold gapN
        rw [hn]
        congr 1
        exact List.filter_congr fun x _ => Bool.and_true _
      rw [hn] at ht
      refine ⟨_, rfl, t, _, 0, _, rfl, rfl, SqT.of ht, atI_nat (j := 0) rfl, rfl, _, rfl, iteT ?_⟩
      refine (Evl.ev_op (Evl.ev_op (Evl.ev_var rfl) Evl.ev_c (Evl.rv_ixT (SqT.of ht) (atI_nat (j := 1) rfl))) (Evl.ev_lenN (el_fil (fun x => decide (n ≤ x)) (Evl.ev_var rfl) hA (by omega) (fun _ => rfl) (fun x _ H1 _ => Evl.et_test (Evl.ev_op (Evl.ev_var rfl) (Evl.ev_var rfl) Evl.rv_I0)) (fun x _ H1 _ _ => Evl.ev_var rfl))) (Evl.rv_eq rfl)) _ (Evl.Ex.refl _) _ fun H2 s2 => ?_
      rw [List.length_map, eg, decide_eq_true rfl]
      exact q H2 s2
    | some b =>
      have eg : gapN wd l xs n = (xs.filter fun x => decide (n ≤ x) && decide (x < b)).length := by
        unfold gapN
        rw [hn]
      have bm : b ∈ xs := by
        unfold nextO at hn
        have m := List.mem_of_mem_head? (Option.mem_def.mpr hn)
        exact levL_mem (List.mem_filter.mp m).1
      rw [hn] at ht
      refine ⟨_, rfl, t, _, 0, _, rfl, rfl, SqT.of ht, atI_nat (j := 0) rfl, rfl, _, rfl, iteNT' (fun z => nomatch z) ?_⟩
      refine ⟨_, rfl, t, _, 0, _, rfl, rfl, SqT.of ht, atI_nat (j := 0) rfl, _, rfl, true, rfl, iteF ?_⟩
      refine ⟨_, rfl, t, _, 0, _, rfl, rfl, SqT.of ht, atI_nat (j := 0) rfl, _, rfl, a, _, rfl, .inl hA, rfl, flat_ints _, _, rfl, ite2 (fun z => ?_) (fun _ => ?_)⟩
      · have z2 : (!inV (.int b) (xs.map V.int)) = true := z
        rw [inV_ints, decide_eq_true bm] at z2
        cases z2
      refine (Evl.ev_op (Evl.ev_op (Evl.ev_var rfl) Evl.ev_c (Evl.rv_ixT (SqT.of ht) (atI_nat (j := 1) rfl))) (Evl.ev_lenN (el_fil (fun x => decide (n ≤ x) && decide (x < b)) (Evl.ev_var rfl) hA (by omega) (fun _ => rfl) (fun x _ H1 s1 => Evl.et_and (Evl.et_test (Evl.ev_op (Evl.ev_var rfl) (Evl.ev_var rfl) Evl.rv_I0)) fun _ => Evl.et_test (Evl.ev_op (Evl.ev_var rfl) (Evl.ev_op (Evl.ev_var rfl) Evl.ev_c (Evl.rv_ixT (SqT.of (s1 _ _ ht)) (atI_nat (j := 0) rfl))) Evl.rv_I0)) (fun x _ H1 _ _ => Evl.ev_var rfl))) (Evl.rv_eq rfl)) _ (Evl.Ex.refl _) _ fun H2 s2 => ?_
      rw [List.length_map, eg, decide_eq_true rfl]
      exact q H2 s2
theorem ok_l_stretch (T : Txt K mg) (R : Rep K T.c_Ladder) (PR : Prog P w K mg base T R) : FnOk P w K mg base CX0 21 T.f_l_stretch T.fd_l_stretch ["_law_ladder", "_law_row", "_law_low", "_law_high"] (sp_l_stretch T R) := by
  have G_ladder_stretch := PR.stretch
  have G_ladder_counted := PR.counted
  have G_l_whole : FnOk P w K mg base CX0 1 T.f_l_whole T.fd_l_whole ["_law_found"] (sp_l_whole T R) := ok_l_whole T R PR
  refine T.F_l_stretch.ok sc_l_stretch (fun vs H Q E h => ?_) (fun cdv A outer s H vs Q E hr h => ?_)
  · obtain ⟨p, a, wd, h, xs, F, lo, hi, rfl, _⟩ := h
    rfl
  · obtain ⟨p, a, wd, h, xs, F, lo, hi, rfl, hL, hA, hlen, l0, l1, h0, h1, q⟩ := h
    refine ⟨_, (pss_cons (ps_setLc (i := 4) (own := [("_law_one", 7)]) (g := gName 7) (by rfl) sc_l_stretch.nd rfl rfl (sw_true rfl rfl rfl (by decide +kernel)) (pi_list (pv 1)) (blkOk_by (own := [("_law_one", 7)]) (N := ["_law_ladder", "_law_row", "_law_low", "_law_high", "_law_due", "_law_found", "_law_counted", "_law_one"]) (sc := defScope s_l_stretch) (by decide +kernel)) (fun _ _ _ _ _ => (pg_name (i := 7) sc_l_stretch.nd rfl (Or.inl rfl))) (fun _ _ _ _ _ => (pts_one (PW.pt (pw_and (pt_cmpR op_ge (pv 7) (pv 2) (nomark _)) (pw_and1 (pt_cmpR op_lt (pv 7) (pv 3) (nomark _))))))) (fun _ _ _ _ _ => (pv 7)))
      (pss_cons (ps_set (i := 5) sc_l_stretch.nd rfl (.inl rfl) (pe_meth (pv 0) T.cl_Ladder T.m_ladder_stretch G_ladder_stretch hr T.bd_ladder_stretch .nil passL (pa_cons (pv 2) (pa_cons (pv 3) pa_nil))))
      (pss_cons (ps_set (i := 6) sc_l_stretch.nd rfl (.inl rfl) (pe_meth (pv 0) T.cl_Ladder T.m_ladder_counted G_ladder_counted hr T.bd_ladder_counted .nil passL (pa_cons (pv 2) (pa_cons (pv 3) pa_nil))))
      (pss_cons (ps_if (PW.pt (pw_or (pt_not (pt_val (pe_callB call_isi (by rfl) T.b_isinstance (by decide +kernel) (pa_cons (pv 5) (pa_cons (pe_bltn (v := .ty "list") (by rfl) T.b_list (by decide +kernel) rfl) pa_nil))))) (pw_or1 (pt_not (pt_val (pe_callB (cr_all rfl) (by rfl) T.b_all (by decide +kernel) (pa_cons (pe_lc (own := [("_law_one", 7)]) (g := gName 7) (by rfl) sc_l_stretch.nd (pi_list (pv 5)) (blkOk_by (own := [("_law_one", 7)]) (N := ["_law_ladder", "_law_row", "_law_low", "_law_high", "_law_due", "_law_found", "_law_counted", "_law_one"]) (sc := defScope s_l_stretch) (by decide +kernel)) (fun _ _ _ _ _ => (pg_name (i := 7) sc_l_stretch.nd rfl (Or.inl rfl))) (fun _ _ _ _ _ => pts_nil) (fun _ _ _ _ _ => (pe_call G_l_whole (hr.mono (by decide)) (by rfl) T.g_l_whole T.F_l_whole.kp T.bd_l_whole .nil pass0 (pa_cons (pv 7) pa_nil)))) pa_nil))))))) (pss_one (ps_ret pe_bl)) pss_nil)
      (pss_cons (ps_if (PW.pt (pw_or (pt_cmpR (op_neD hr.units) (pv 5) (pv 4) (nomark _)) (pw_or (pt_not (pt_val (pe_call G_l_whole (hr.mono (by decide)) (by rfl) T.g_l_whole T.F_l_whole.kp T.bd_l_whole .nil pass0 (pa_cons (pv 6) pa_nil)))) (pw_or1 (pt_cmpR op_ne (pv 6) (pe_callB call_len_seq (by rfl) T.b_len PySem.boot_len (pa_cons (pv 4) pa_nil)) (nomark _)))))) (pss_one (ps_ret pe_bl)) pss_nil)
      (pss_cons (ps_expr (pe_bm0 PySem.F.plainAttrs_list PySem.F.slot_list_clear PySem.F.type_list_clear mt_clear (pv 5)))
      (pss_one (ps_ret (pe_cmpR (op_eqD hr.units) (pe_meth (pv 0) T.cl_Ladder T.m_ladder_stretch G_ladder_stretch hr T.bd_ladder_stretch .nil passL (pa_cons (pv 2) (pa_cons (pv 3) pa_nil))) (pv 4) (nomark _)))))))))), ?_⟩
    obtain ⟨dx, fs, hp, _, _, _, _, hm⟩ := R.ins hL
    refine Evl.q_asgL (el_fil (fun x => decide (lo ≤ x) && decide (x < hi)) (Evl.ev_var rfl) hA (by omega) (fun _ => rfl) (fun x _ H1 s1 => Evl.et_and (Evl.et_test (Evl.ev_op (Evl.ev_var rfl) (Evl.ev_var rfl) Evl.rv_I0)) fun _ => Evl.et_test (Evl.ev_op (Evl.ev_var rfl) (Evl.ev_var rfl) Evl.rv_I0)) (fun x _ H1 _ _ => Evl.ev_var rfl)) fun la H1 nla s1 hla => ?_
    have lst : (stretchL xs lo hi).length ≤ 150 := Nat.le_trans (List.length_filter_le _ _) hlen
    refine ⟨_, rfl, p, dx, fs, rfl, s1 _ _ hp, hm _ (by decide +kernel), _, rfl, _, rfl, p, wd, h, xs, F, lo, hi, rfl, R.same hL s1, hlen, fun z => absurd z (by omega), fun _ _ _ _ H2 r s2 nr hr => ?_⟩
    have t2 : Same H H2 := Same.trans s1 s2
    dsimp only [gName]
    refine ⟨_, rfl, p, dx, fs, rfl, t2 _ _ hp, hm _ (by decide +kernel), _, rfl, _, rfl, p, wd, h, xs, F, lo, hi, rfl, R.same hL t2, hlen, fun z => absurd z (by omega), fun _ _ _ _ H3 s3 => ?_⟩
    have t3 := t2.trans s3
    have hr3 := s3 _ _ hr
    have hla3 : H3 la = some (.lst ((stretchL xs lo hi).map V.int)) := s3 _ _ (s2 _ _ hla)
    dsimp only [gName]
    refine ⟨_, rfl, .ref r, .ty "list", .type "list", .type "list", true, rfl, .ty _, .base (.lst hr3), kit_ty (by decide +kernel), true, rfl, iteF ?_⟩
    refine evT_use (Evl.et_not (Evl.et_B (ev_allL (Evl.el_lcL (fun _ => true) (fun _ => V.bl true) (Evl.ev_var (by rfl)) (SqL.of hr3) (by rw [List.length_map]; omega) (by intro _; rfl) (fun i x H6 e6 hx => et_yes) (fun i x H6 e6 hx _ => ?_))))) fun H4 s4 => iteF ?_
    · obtain ⟨_, rfl, _⟩ := int_at hx
      exact fun H8 e8 Q q => ⟨_, rfl, _, rfl, q H8 (Evl.Ex.refl _)⟩
    have t4 := t3.trans s4
    have hr4 := s4 _ _ hr3
    have hla4 := s4 _ _ hla3
    refine ⟨_, rfl, _, rfl, neD_ints (SqL.of hr4) (SqL.of hla4) rfl ⟨false, rfl, iteF ?_⟩⟩
    refine ⟨_, rfl, _, rfl, true, rfl, iteF ?_⟩
    refine ⟨_, rfl, _, rfl, la, _, rfl, .inl (SqL.of hla4), rfl, _, rfl, iteNS (by rw [List.length_map]) ?_⟩
    refine ⟨_, rfl, .inl ⟨rfl, _, SqL.of hr4⟩, r, _, rfl, rfl, hr4, ?_⟩
    have nrH : H r = none := Same.free s1 nr
    have t5 := same_mut (o := .lst []) t4 nrH
    have lar : la ≠ r := fun z => by
      rw [z] at hla
      rw [hla] at nr
      cases nr
    have hla5 : (upd H4 r (.lst [])) la = some (.lst ((stretchL xs lo hi).map V.int)) := by rw [upd_ne lar]; exact hla4
    refine ⟨_, rfl, p, dx, fs, rfl, t5 _ _ hp, hm _ (by decide +kernel), _, rfl, _, rfl, p, wd, h, xs, F, lo, hi, rfl, R.same hL t5, hlen, fun z => absurd z (by omega), fun _ _ _ _ H6 r6 s6 nr6 hr6 => ?_⟩
    exact ⟨_, rfl, eqD_same (dp_ints (SqL.of hr6)) (dp_ints (SqL.of (s6 _ _ hla5))) (shaped_ints _) (q H6 (t5.trans s6))⟩
/-! ### a trail as it stands in the heap -/
theorem dh_states {H H' : Hp} (st : ∀ c xs, H c = some (.tup xs) → H' c = some (.tup xs)) : ∀ {ts : List (Nat × Int)} {us : List V}, DhAll H us (ts.map stD) → DhAll H' us (ts.map stD)
  | [], _, h => by
    cases h
    exact .nil
  | s :: ts, _, h => by
    cases h with
    | cons h r =>
      obtain ⟨t, rfl, ht⟩ := dh_st h
      exact .cons (.tup (st _ _ ht) (.cons (.int _) (.cons (.int _) .nil))) (dh_states st r)
theorem eqD_ne {K : PySem.W.Frag} {H : Hp} {x y : V} {d1 d2 : PyData} {Q : VK} (hx : Dp K H x d1) (hy : Dp K H y d2) (s1 : SeqAt.shaped d1 = true) (s2 : SeqAt.shaped d2 = true) (e : PyData.eqv d1 d2 = false) (q : Q (.bl false) H) : rEqD K x y H Q := ⟨d1, d2, hx, hy, s1, s2, by
  rw [e]
  exact q⟩
theorem st_at {H : Hp} {us : List V} {t : List (Nat × Int)} {i : Nat} {s : Nat × Int} (df : DhAll H us (t.map stD)) (h : t[i]? = some s) : ∃ tt, us[i]? = some (.ref tt) ∧ H tt = some (.tup [.int (s.1 : Int), .int s.2]) := by
  have ll : us.length = t.length := by rw [df.len, List.length_map]
  have hi : i < us.length := by
    rw [ll]
    exact (List.getElem?_eq_some_iff.mp h).1
  obtain ⟨d, hd, dv⟩ := df.get (List.getElem?_eq_getElem hi)
  rw [List.getElem?_map, h] at hd
  cases hd
  obtain ⟨tt, e, ht⟩ := dh_st dv
  exact ⟨tt, by rw [List.getElem?_eq_getElem hi, e], ht⟩
theorem dh_two {H : Hp} {t : Addr} {x y : Int} (h : H t = some (.tup [.int x, .int y])) : Dh H (.ref t) (.tuple [.int x, .int y]) := .tup h (.cons (.int _) (.cons (.int _) .nil))
theorem place_le {xs : List Int} {b y : Int} (hy : y ∈ xs) : placeN xs b ≤ placeN xs y ↔ b ≤ y := by
  constructor
  · intro h
    by_cases c : b ≤ y
    · exact c
    · have z := place_gap y b (by omega) xs
      have m : y ∈ xs.filter fun x => decide (y ≤ x) && decide (x < b) := List.mem_filter.mpr ⟨hy, by rw [decide_eq_true (Int.le_refl y), decide_eq_true (show y < b by omega)]; rfl⟩
      have := List.length_pos_of_mem m
      omega
  · intro h
    have := place_gap b y h xs
    omega
theorem gap_place {w : Int} {l : Nat} {xs : List Int} {a b : Int} (h : nextO w l xs a = some b) : (gapN w l xs a : Int) = placeN xs b - placeN xs a ∧ a < b ∧ b ∈ xs := by
  have m : b ∈ (levL w l xs).filter fun x => decide (a < x) := List.mem_of_mem_head? (Option.mem_def.mpr h)
  have m2 := List.mem_filter.mp m
  have lt : a < b := of_decide_eq_true m2.2
  have z := place_gap a b (by omega) xs
  refine ⟨?_, lt, levL_mem m2.1⟩
  unfold gapN
  rw [h]
  show (((xs.filter fun x => decide (a ≤ x) && decide (x < b)).length : Nat) : Int) = _
  omega
/-- what a step of the way does -/
theorem way_step {w : Int} {h : Nat} {x0 : Int} {rest : List Int} (ok : RowOk w h (x0 :: rest)) {y : Int} (hy : y ∈ x0 :: rest) {t : List (Nat × Int)} (tok : TrailOk w h (x0 :: rest) y t) {i : Nat} {l : Nat} {a : Int} (hi : t[i]? = some (l, a)) :
    (∃ b, nextO w l (x0 :: rest) a = some b ∧ (gapN w l (x0 :: rest) a : Int) ≤ placeN (x0 :: rest) y - placeN (x0 :: rest) a ∧ t[i + 1]? = some (l, b)) ∨
    ((nextO w l (x0 :: rest) a = none ∨ ∃ b, nextO w l (x0 :: rest) a = some b ∧ ¬ (gapN w l (x0 :: rest) a : Int) ≤ placeN (x0 :: rest) y - placeN (x0 :: rest) a) ∧ ((∃ l2, l = l2 + 1 ∧ t[i + 1]? = some (l2, a)) ∨ (l = 0 ∧ a = y ∧ t[i + 1]? = none))) := by
  obtain ⟨w1, w2, w3⟩ := walk_at t i (l, a) tok.walk hi
  have fin : t[i + 1]? = none → l = 0 ∧ a = y := fun hn => by
    obtain ⟨z, z1, z2⟩ := tok.last
    have il := (List.getElem?_eq_some_iff.mp hi).1
    have ie : i = t.length - 1 := by
      have := List.getElem?_eq_none_iff.mp hn
      omega
    rw [List.getLast?_eq_getElem?, ← ie, hi] at z1
    cases z1
    obtain ⟨q1, q2⟩ := last_max (ok.rise.filter _) z2
    have q3 := of_decide_eq_true (List.mem_filter.mp q1).2
    have q4 := q2 y (List.mem_filter.mpr ⟨hy, decide_eq_true (Int.le_refl y)⟩)
    exact ⟨rfl, by omega⟩
  have down : ∀ s, t[i + 1]? = some s → (if 0 < l then some (l - 1, a) else none) = some s → ∃ l2, l = l2 + 1 ∧ t[i + 1]? = some (l2, a) := fun s hs e => by
    by_cases c : 0 < l
    · rw [if_pos c] at e
      exact ⟨l - 1, by omega, by rw [hs, ← Option.some.inj e]⟩
    · rw [if_neg c] at e
      cases e
  cases hn : nextO w l (x0 :: rest) a with
  | none =>
    refine .inr ⟨.inl rfl, ?_⟩
    cases hs : t[i + 1]? with
    | none =>
      obtain ⟨e1, e2⟩ := fin hs
      exact .inr ⟨e1, e2, rfl⟩
    | some s =>
      have st := w3 s hs
      unfold stepT at st
      have st2 : (match nextO w l (x0 :: rest) a with | none => if 0 < l then some (l - 1, a) else none | some b => if b ≤ y then some (l, b) else if 0 < l then some (l - 1, a) else none) = some s := st
      rw [hn] at st2
      obtain ⟨l2, e1, e2⟩ := down s hs st2
      rw [hs] at e2
      exact .inl ⟨l2, e1, e2⟩
  | some b =>
    obtain ⟨g, lt, bm⟩ := gap_place hn
    have key : (gapN w l (x0 :: rest) a : Int) ≤ placeN (x0 :: rest) y - placeN (x0 :: rest) a ↔ b ≤ y := by
      rw [← place_le hy]
      omega
    by_cases c : b ≤ y
    · refine .inl ⟨b, rfl, key.mpr c, ?_⟩
      cases hs : t[i + 1]? with
      | none =>
        obtain ⟨e1, e2⟩ := fin hs
        omega
      | some s =>
        have st := w3 s hs
        unfold stepT at st
        have st2 : (match nextO w l (x0 :: rest) a with | none => if 0 < l then some (l - 1, a) else none | some b => if b ≤ y then some (l, b) else if 0 < l then some (l - 1, a) else none) = some s := st
        rw [hn] at st2
        have st3 : (if b ≤ y then some (l, b) else if 0 < l then some (l - 1, a) else none) = some s := st2
        rw [if_pos c] at st3
        exact st3.symm
    · refine .inr ⟨.inr ⟨b, rfl, fun z => c (key.mp z)⟩, ?_⟩
      cases hs : t[i + 1]? with
      | none =>
        obtain ⟨e1, e2⟩ := fin hs
        exact .inr ⟨e1, e2, rfl⟩
      | some s =>
        have st := w3 s hs
        unfold stepT at st
        have st2 : (match nextO w l (x0 :: rest) a with | none => if 0 < l then some (l - 1, a) else none | some b => if b ≤ y then some (l, b) else if 0 < l then some (l - 1, a) else none) = some s := st
        rw [hn] at st2
        have st3 : (if b ≤ y then some (l, b) else if 0 < l then some (l - 1, a) else none) = some s := st2
        rw [if_neg c] at st3
        obtain ⟨l2, e1, e2⟩ := down s hs st3
        rw [hs] at e2
        exact .inl ⟨l2, e1, e2⟩
theorem ok_l_way (T : Txt K mg) (R : Rep K T.c_Ladder) (PR : Prog P w K mg base T R) : FnOk P w K mg base CX0 21 T.f_l_way T.fd_l_way ["_law_ladder", "_law_row", "_law_place"] (sp_l_way T R) := by
  have G_ladder_way := PR.way
  have G_ladder_ahead := PR.ahead
  have G_l_gap : FnOk P w K mg base CX0 2 T.f_l_gap T.fd_l_gap ["_law_row", "_law_number_here", "_law_found"] (sp_l_gap T R) := ok_l_gap T R PR
  have G_ladder_at := PR.at_
  refine T.F_l_way.ok sc_l_way (fun vs H Q E h => ?_) (fun cdv A outer s H vs Q E hr h => ?_)
  · obtain ⟨p, a, wd, h, xs, F, j, rfl, _⟩ := h
    rfl
  · obtain ⟨p, a, wd, h, xs, F, j, rfl, hL, hA, hlen, hj, q⟩ := h
    refine ⟨_, (pss_cons (ps_set (i := 3) sc_l_way.nd rfl (.inl rfl) (pe_meth (pv 0) T.cl_Ladder T.m_ladder_way G_ladder_way hr T.bd_ladder_way .nil passL (pa_cons (pv 2) pa_nil)))
      (pss_cons (ps_if (PW.pt (pw_or (pt_not (pt_val (pe_callB call_isi (by rfl) T.b_isinstance (by decide +kernel) (pa_cons (pv 3) (pa_cons (pe_bltn (v := .ty "list") (by rfl) T.b_list (by decide +kernel) rfl) pa_nil))))) (pw_or (pt_cmpR (op_eqD hr.units) (pv 3) (pe_lst pa_nil) (nomark _)) (pw_or1 (pt_cmpR (op_neD hr.units) (pe_ix ix_list (pv 3) pe_int (fun _ _ => rfl)) (pe_tup (pa_cons (pe_fld (pv 0) rfl) (pa_cons (pe_ix ix_list (pv 1) pe_int (fun _ _ => rfl)) pa_nil))) (nomark _)))))) (pss_one (ps_ret pe_bl)) pss_nil)
      (pss_cons (ps_set (i := 4) sc_l_way.nd rfl (.inl rfl) (pv 2))
      (pss_cons (ps_for PassesOwn.never rfl (pi_range1 (by rfl) T.b_range (pa_cons (pe_callB call_len_seq (by rfl) T.b_len PySem.boot_len (pa_cons (pv 3) pa_nil)) pa_nil)) (pg_name (i := 5) sc_l_way.nd rfl (.inl rfl)) (pss_cons (ps_set (i := 6) sc_l_way.nd rfl (.inl rfl) (pe_meth (pv 0) T.cl_Ladder T.m_ladder_ahead G_ladder_ahead hr T.bd_ladder_ahead .nil passL (pa_cons (pe_ix ix_tup (pe_ix ix_list (pv 3) (pv 5) (fun _ _ => rfl)) pe_int (fun _ _ => rfl)) (pa_cons (pe_ix ix_tup (pe_ix ix_list (pv 3) (pv 5) (fun _ _ => rfl)) pe_int (fun _ _ => rfl)) pa_nil))))
      (pss_cons (ps_if (pt_not (pt_val (pe_call G_l_gap (hr.mono (by decide)) (by rfl) T.g_l_gap T.F_l_gap.kp T.bd_l_gap .nil pass0 (pa_cons (pv 1) (pa_cons (pe_ix ix_tup (pe_ix ix_list (pv 3) (pv 5) (fun _ _ => rfl)) pe_int (fun _ _ => rfl)) (pa_cons (pv 6) pa_nil)))))) (pss_one (ps_ret pe_bl)) pss_nil)
      (pss_cons (ps_set (i := 7) sc_l_way.nd rfl (.inl rfl) (pe_tup (pa_cons (pe_op op_sub (pe_ix ix_tup (pe_ix ix_list (pv 3) (pv 5) (fun _ _ => rfl)) pe_int (fun _ _ => rfl)) pe_int) (pa_cons (pe_ix ix_tup (pe_ix ix_list (pv 3) (pv 5) (fun _ _ => rfl)) pe_int (fun _ _ => rfl)) pa_nil))))
      (Evl.pss_cut (ps_if (PW.pt (pw_and (pt_cmpR op_notN (pe_ix ix_tup (pv 6) pe_int (fun _ _ => rfl)) pe_non (nomark _)) (pw_and1 (pt_cmpR op_le (pe_ix ix_tup (pv 6) pe_int (fun _ _ => rfl)) (pv 4) (nomark _))))) (pss_cons (ps_set (i := 4) sc_l_way.nd rfl (.inl rfl) (pe_op op_sub (pv 4) (pe_ix ix_tup (pv 6) pe_int (fun _ _ => rfl))))
      (pss_one (ps_set (i := 7) sc_l_way.nd rfl (.inl rfl) (pe_tup (pa_cons (pe_ix ix_tup (pe_ix ix_list (pv 3) (pv 5) (fun _ _ => rfl)) pe_int (fun _ _ => rfl)) (pa_cons (pe_ix ix_tup (pv 6) pe_int (fun _ _ => rfl)) pa_nil)))))) pss_nil)
      (pss_one (ps_if (PW.pt (pw_or (PW.pt (pw_and (pt_cmpR op_lt (pe_op op_add (pv 5) pe_int) (pe_callB call_len_seq (by rfl) T.b_len PySem.boot_len (pa_cons (pv 3) pa_nil)) (nomark _)) (pw_and1 (pt_cmpR (op_neD hr.units) (pe_ix ix_list (pv 3) (pe_op op_add (pv 5) pe_int) (fun _ _ => rfl)) (pv 7) (nomark _))))) (pw_or1 (PW.pt (pw_and (pt_cmpR op_eq (pe_op op_add (pv 5) pe_int) (pe_callB call_len_seq (by rfl) T.b_len PySem.boot_len (pa_cons (pv 3) pa_nil)) (nomark _)) (pw_and1 (pt_cmpR op_ne (pe_ix ix_tup (pv 7) pe_int (fun _ _ => rfl)) (pe_un un_neg pe_int) (nomark _)))))))) (pss_one (ps_ret pe_bl)) pss_nil)))))))
      (pss_cons (ps_set (i := 8) sc_l_way.nd rfl (.inl rfl) (pe_callTy call_list_of (by rfl) T.b_list (by decide +kernel) (pa_cons (pv 3) pa_nil)))
      (pss_cons (ps_expr (pe_bm0 PySem.F.plainAttrs_list PySem.F.slot_list_clear PySem.F.type_list_clear mt_clear (pv 3)))
      (pss_one (ps_ret (pe_and (pe_cmpR op_eq (pv 4) pe_int (nomark _)) (pe_and (pe_cmpR op_eq (pe_ix ix_tup (pe_ix ix_list (pv 8) (pe_un un_neg pe_int) (fun _ _ => rfl)) pe_int (fun _ _ => rfl)) (pe_ix ix_list (pv 1) (pv 2) (fun _ _ => rfl)) (nomark _)) (pe_and (pe_cmpR op_eq (pe_meth (pv 0) T.cl_Ladder T.m_ladder_at G_ladder_at hr T.bd_ladder_at .nil passL (pa_cons (pv 2) pa_nil)) (pe_ix ix_list (pv 1) (pv 2) (fun _ _ => rfl)) (nomark _)) (pe_one (pe_cmpR (op_eqD hr.units) (pe_meth (pv 0) T.cl_Ladder T.m_ladder_way G_ladder_way hr T.bd_ladder_way .nil passL (pa_cons (pv 2) pa_nil)) (pv 8) (nomark _)))))))))))))), ?_⟩
    obtain ⟨dx, fs, hp, _, hhigh, _, _, hm⟩ := R.ins hL
    have ok := R.ok hL
    have h12 := ok.h12
    obtain ⟨x0, rest, rfl⟩ : ∃ x0 rest, xs = x0 :: rest := by
      cases xs with
      | nil => exact absurd hj (Nat.not_lt_zero j)
      | cons x rest => exact ⟨x, rest, rfl⟩
    generalize hy : (x0 :: rest).getD j 0 = y0
    have ym : y0 ∈ x0 :: rest := hy ▸ mem_at hj
    have x0y : x0 ≤ y0 := by
      rcases List.mem_cons.mp ym with e | m
      · omega
      · exact Int.le_of_lt ((List.pairwise_cons.mp ok.rise).1 y0 m)
    have py : placeN (x0 :: rest) y0 = j := by rw [← hy]; exact placeN_at ok.rise hj
    have et : trailR wd h (x0 :: rest) y0 = trailC wd (x0 :: rest) y0 h x0 := if_pos x0y
    have tok := trail_ok ok x0y
    refine ⟨_, rfl, p, dx, fs, rfl, hp, hm _ (by decide +kernel), _, rfl, p, wd, h, _, F, _, (j : Int), rfl, View.nothing hL, hlen, fun z => absurd z (by omega), fun j2 e2 _ H2 G2 r us v2 _ s2 nrr _ hr d2 => ?_⟩
    have ej2 : j2 = j := by omega
    subst ej2
    rw [hy, et] at d2
    revert d2 tok et
    generalize trailC wd (x0 :: rest) y0 h x0 = t
    intro et tok d2
    have hr2 := v2.sub _ _ hr
    have d2' := d2.same v2.sub
    dsimp only [gName]
    have ll : us.length = t.length := by rw [d2'.len, List.length_map]
    have hr0 : SqL K H2 r us := SqL.of hr2
    obtain ⟨xq, restq, exq, hdq⟩ := tok.first
    cases exq
    have t0 : t[0]? = some (h, x0) := by rw [← List.head?_eq_getElem?]; exact hdq
    have tl : 0 < t.length := (List.getElem?_eq_some_iff.mp t0).1
    obtain ⟨tt0, u0, k0⟩ := st_at d2' t0
    have tlen : (t.length : Int) ≤ 200 := by
      have m1 : (h : Int) * wd ≤ 12 * 9 := Int.mul_le_mul (by omega) ok.w9 (by have := ok.w2; omega) (by omega)
      have m2 := tok.len
      omega
    refine ⟨_, rfl, .ref r, .ty "list", .type "list", .type "list", true, rfl, .ty _, .base (.lst hr2), kit_ty (by decide +kernel), true, rfl, iteF ?_⟩
    refine ⟨_, rfl, (by show 0 ≤ sizeLine; decide), fun q3 nq3 => ?_⟩
    have s3 := same_upd (o := .lst []) nq3
    have eF : PyData.eqv (.list (t.map stD)) (.list []) = false := by
      cases t with
      | nil => exact absurd tl (Nat.lt_irrefl 0)
      | cons x r => rfl
    refine eqD_ne (Dh.lst (s3 _ _ hr2) (d2'.same s3)).dp (Dh.lst upd_same .nil).dp (shaped_trail _) rfl eF ⟨false, rfl, iteF ?_⟩
    have t3 := s2.trans s3
    have hr3 := s3 _ _ hr2
    have d3 := d2'.same s3
    have k3 := s3 _ _ k0
    revert t3 hr3 d3 k3
    generalize upd H2 q3 (.lst []) = H3
    intro t3 hr3 d3 k3
    have row0 : ((x0 :: rest).map V.int)[0]? = some (.int x0) := rfl
    refine ⟨_, rfl, r, _, 0, _, rfl, rfl, SqL.of hr3, atI_nat (j := 0) u0, _, rfl, p, _, dx, fs, _, rfl, t3 _ _ hp, T.cl_Ladder, T.n_Ladder_high, hhigh, _, rfl, a, _, 0, _, rfl, rfl, t3.seq hA, atI_nat (j := 0) row0, (by show 2 ≤ sizeLine; decide), fun tq ntq => ?_⟩
    have s4 := same_upd (o := .tup [.int (h : Int), .int x0]) ntq
    refine neD_same (Dh.dp (dh_two (s4 _ _ k3))) (Dh.dp (dh_two upd_same)) rfl ⟨false, rfl, iteF ?_⟩
    have t4 := t3.trans s4
    have hr4 := s4 _ _ hr3
    have d4 := d3.same s4
    revert t4 hr4 d4
    generalize upd H3 tq (.tup [.int (h : Int), .int x0]) = H4
    intro t4 hr4 d4
    refine ⟨_, rfl, ?_⟩
    dsimp only [gName]
    have p0 : placeN (x0 :: rest) x0 = 0 := by
      have z := placeN_at ok.rise (show 0 < (x0 :: rest).length from Nat.succ_pos _)
      exact z
    refine ⟨_, rfl, r, _, rfl, .inl (SqL.of hr4), (us.length : Int), rfl, by omega, by omega, for_range (lo := 0) (n := us.length) (fun i σ H' => Same H4 H' ∧ ∃ (lf : Int) (y5 y6 y7 : Option V), (∀ s, t[i]? = some s → lf = (placeN (x0 :: rest) y0 : Int) - placeN (x0 :: rest) s.2) ∧ (t[i]? = none → lf = 0) ∧ σ = [nR p, nR a, nI (j2 : Int), nR r, nI lf, y5, y6, y7, none])
      ⟨Same.refl _, (j2 : Int), none, none, none, fun s hs => ?_, fun hs => ?_, rfl⟩ ?_ ?_⟩
    · rw [t0] at hs
      cases hs
      show (j2 : Int) = placeN (x0 :: rest) y0 - placeN (x0 :: rest) x0
      rw [p0, py]
      omega
    · rw [t0] at hs
      cases hs
    · rintro i σ H' hi ⟨sH, lf, y5, y6, y7, hlf, _, rfl⟩
      rw [Int.zero_add]
      dsimp only [gName]
      obtain ⟨⟨l, a0⟩, ti⟩ : ∃ s, t[i]? = some s := ⟨_, List.getElem?_eq_getElem (by omega)⟩
      obtain ⟨ai, ui, ki⟩ := st_at d4 ti
      obtain ⟨w1, w2, w3⟩ := walk_at t i (l, a0) tok.walk ti
      have w1' : l ≤ h := w1
      have lfe : lf = (placeN (x0 :: rest) y0 : Int) - placeN (x0 :: rest) a0 := hlf _ ti
      have u4 := t4.trans sH
      have hrH := SqL.of (K := K) (sH _ _ hr4)
      have kiH := SqT.of (K := K) (sH _ _ ki)
      refine ⟨_, rfl, p, dx, fs, rfl, u4 _ _ hp, hm _ (by decide +kernel), _, rfl, _, rfl, r, _, (i : Int), _, rfl, rfl, hrH, atI_nat ui, ai, _, 0, _, rfl, rfl, kiH, atI_nat (j := 0) rfl, _, rfl, _, rfl, r, _, (i : Int), _, rfl, rfl, hrH, atI_nat ui, ai, _, 1, _, rfl, rfl, kiH, atI_nat (j := 1) rfl, p, wd, h, x0 :: rest, F, (l : Int), a0, rfl, R.same hL u4, hlen, fun z => absurd z (by omega), fun l3 el hl nm => ?_, fun l3 el hl mem H5 t5 s5 n5 h5 => ?_⟩
      · have : l3 = l := by omega
        subst this
        exact absurd w2 nm
      have el3 : l3 = l := by omega
      subst el3
      have s05 := sH.trans s5
      have u5 := u4.trans s5
      have hr5 := SqL.of (K := K) (s05 _ _ hr4)
      have ki5 := SqT.of (K := K) (s05 _ _ ki)
      dsimp only [gName]
      refine ⟨_, rfl, _, rfl, _, rfl, r, _, (i : Int), _, rfl, rfl, hr5, atI_nat ui, ai, _, 1, _, rfl, rfl, ki5, atI_nat (j := 1) rfl, _, rfl, a, t5, _, wd, a0, l3, rfl, u5.seq hA, hlen, h5, fun H6 s6 => ⟨true, rfl, iteF ?_⟩⟩
      have s06 := s05.trans s6
      have hr6 := SqL.of (K := K) (s06 _ _ hr4)
      have ki6 := SqT.of (K := K) (s06 _ _ ki)
      have h6 := s6 _ _ h5
      refine ⟨_, rfl, _, rfl, r, _, (i : Int), _, rfl, rfl, hr6, atI_nat ui, ai, _, 0, _, rfl, rfl, ki6, atI_nat (j := 0) rfl, _, _, rfl, rfl, _, rfl, _, rfl, r, _, (i : Int), _, rfl, rfl, hr6, atI_nat ui, ai, _, 1, _, rfl, rfl, ki6, atI_nat (j := 1) rfl, (by show 2 ≤ sizeLine; decide), fun t7 n7 => ?_⟩
      have s7 := same_upd (o := .tup [.int ((l3 : Int) - 1), .int a0]) n7
      have h77 : (upd H6 t7 (.tup [.int ((l3 : Int) - 1), .int a0])) t7 = some (.tup [.int ((l3 : Int) - 1), .int a0]) := upd_same
      have h67 := s7 _ _ h6
      have s07 := s06.trans s7
      revert h77 h67 s07
      generalize upd H6 t7 (.tup [.int ((l3 : Int) - 1), .int a0]) = H7
      intro h77 h67 s07
      dsimp only [gName]
      show Evl.tCut _ _ _ [nR p, nR a, nI (j2 : Int), nR r, nI lf, nI (i : Int), nR t5, nR t7, none] _
      have hr7 := SqL.of (K := K) (s07 _ _ hr4)
      have ki7 := SqT.of (K := K) (s07 _ _ ki)
      refine ⟨fun σ H8 => Same H7 H8 ∧ ∃ (lf2 dl dn : Int) (t8 : Addr), H8 t8 = some (.tup [.int dl, .int dn]) ∧ (∀ s, t[i + 1]? = some s → dl = (s.1 : Int) ∧ dn = s.2 ∧ lf2 = (placeN (x0 :: rest) y0 : Int) - placeN (x0 :: rest) s.2) ∧ (t[i + 1]? = none → dl = -1 ∧ lf2 = 0) ∧ σ = [nR p, nR a, nI (j2 : Int), nR r, nI lf2, nI (i : Int), nR t5, nR t8, none], ?_, ?_⟩
      · rcases way_step ok ym tok ti with ⟨b, hn, le, hs⟩ | ⟨hc, hs⟩
        · rw [hn] at h67
          obtain ⟨g1, g2, g3⟩ := gap_place hn
          refine ⟨_, rfl, t5, _, 0, _, rfl, rfl, SqT.of h67, atI_nat (j := 0) rfl, rfl, _, rfl, iteNT (fun z => nomatch z) ⟨_, rfl, t5, _, 1, _, rfl, rfl, SqT.of h67, atI_nat (j := 1) rfl, _, rfl, _, _, rfl, rfl, _, rfl, ite2 (fun _ => ?_) (fun z => absurd (decide_eq_true (by omega)) z)⟩⟩
          refine ⟨_, rfl, _, rfl, t5, _, 1, _, rfl, rfl, SqT.of h67, atI_nat (j := 1) rfl, _, _, rfl, rfl, ?_⟩
          dsimp only [gName]
          refine ⟨_, rfl, _, rfl, r, _, (i : Int), _, rfl, rfl, hr7, atI_nat ui, ai, _, 0, _, rfl, rfl, ki7, atI_nat (j := 0) rfl, _, rfl, t5, _, 0, _, rfl, rfl, SqT.of h67, atI_nat (j := 0) rfl, (by show 2 ≤ sizeLine; decide), fun t9 n9 => ⟨same_upd n9, lf - (gapN wd l3 (x0 :: rest) a0 : Int), (l3 : Int), b, t9, upd_same, fun s e => ?_, fun e => ?_, rfl⟩⟩
          · rw [hs] at e
            cases e
            exact ⟨rfl, rfl, by show lf - _ = (placeN (x0 :: rest) y0 : Int) - placeN (x0 :: rest) b; omega⟩
          · rw [hs] at e
            cases e
        · have stay : ∃ (lf2 dl dn : Int) (t8 : Addr), H7 t8 = some (.tup [.int dl, .int dn]) ∧ (∀ s, t[i + 1]? = some s → dl = (s.1 : Int) ∧ dn = s.2 ∧ lf2 = (placeN (x0 :: rest) y0 : Int) - placeN (x0 :: rest) s.2) ∧ (t[i + 1]? = none → dl = -1 ∧ lf2 = 0) ∧ [nR p, nR a, nI (j2 : Int), nR r, nI lf, nI (i : Int), nR t5, nR t7, none] = [nR p, nR a, nI (j2 : Int), nR r, nI lf2, nI (i : Int), nR t5, nR t8, none] := by
            refine ⟨lf, (l3 : Int) - 1, a0, t7, h77, fun s e => ?_, fun e => ?_, rfl⟩
            · rcases hs with ⟨l2, e1, e2⟩ | ⟨_, _, e2⟩
              · rw [e2] at e
                cases e
                exact ⟨by show (l3 : Int) - 1 = (l2 : Int); omega, rfl, lfe⟩
              · rw [e2] at e
                cases e
            · rcases hs with ⟨l2, e1, e2⟩ | ⟨e1, e3, e2⟩
              · rw [e2] at e
                cases e
              · rw [e3] at lfe
                exact ⟨by omega, by omega⟩
          rcases hc with hn | ⟨b, hn, nle⟩
          · rw [hn] at h67
            exact ⟨_, rfl, t5, _, 0, _, rfl, rfl, SqT.of h67, atI_nat (j := 0) rfl, rfl, _, rfl, iteNS rfl (iteF ⟨Same.refl _, stay⟩)⟩
          · rw [hn] at h67
            exact ⟨_, rfl, t5, _, 0, _, rfl, rfl, SqT.of h67, atI_nat (j := 0) rfl, rfl, _, rfl, iteNT (fun z => nomatch z) ⟨_, rfl, t5, _, 1, _, rfl, rfl, SqT.of h67, atI_nat (j := 1) rfl, _, rfl, _, _, rfl, rfl, _, rfl, ite2 (fun z => absurd (of_decide_eq_true z) (by omega)) (fun _ => ⟨Same.refl _, stay⟩)⟩⟩
      · rintro σ H8 ⟨s8, lf2, dl, dn, t8, h8, f1, f2, rfl⟩
        have s08 := s07.trans s8
        have hr8 := SqL.of (K := K) (s08 _ _ hr4)
        cases hs : t[i + 1]? with
        | some s =>
          obtain ⟨aj, uj, kj⟩ := st_at d4 hs
          obtain ⟨e1, e2, e3⟩ := f1 s hs
          have il := (List.getElem?_eq_some_iff.mp hs).1
          rw [e1, e2] at h8
          have rvN : Evl.RV (rNeD K) (.ref aj) (.ref t8) H8 (.bl false) := fun H1 e Q q => neD_same (Dh.dp (dh_two (e _ _ (s08 _ _ kj)))) (Dh.dp (dh_two (e _ _ h8))) rfl (q H1 (Evl.Ex.refl _))
          refine Evl.s_when (b := false) (Evl.et_is (Evl.et_or (Evl.et_and (Evl.et_test (Evl.ev_op (Evl.ev_op (Evl.ev_var rfl) Evl.ev_c Evl.rv_I0) (Evl.ev_len (Evl.ev_var rfl) hr8) Evl.rv_I0)) fun _ => Evl.et_test (Evl.ev_op (Evl.ev_op (Evl.ev_var rfl) (Evl.ev_op (Evl.ev_var rfl) Evl.ev_c Evl.rv_I0) (Evl.rv_ixL hr8 (atI_nat (j := i + 1) uj))) (Evl.ev_var rfl) rvN)) fun _ => Evl.et_and (b := false) (Evl.et_test (Evl.ev_op (Evl.ev_op (Evl.ev_var rfl) Evl.ev_c Evl.rv_I0) (Evl.ev_len (Evl.ev_var rfl) hr8) (Evl.rv_eq rfl))) fun c => absurd (V.int.inj (of_decide_eq_true c)) (by omega)) (by simp)) (fun hb => nomatch hb) (fun _ H9 s9 => ?_)
          exact ⟨s08.trans s9, lf2, _, _, _, (fun s' e => by cases e; exact e3), (fun e => nomatch e), rfl⟩
        | none =>
          obtain ⟨e1, e2⟩ := f2 hs
          have il : i + 1 = us.length := by
            have := List.getElem?_eq_none_iff.mp hs
            omega
          rw [e1] at h8
          refine Evl.s_when (b := false) (Evl.et_is (Evl.et_or (Evl.et_and (b := false) (Evl.et_test (Evl.ev_op (Evl.ev_op (Evl.ev_var rfl) Evl.ev_c Evl.rv_I0) (Evl.ev_len (Evl.ev_var rfl) hr8) Evl.rv_I0)) fun c => absurd (of_decide_eq_true c) (by omega)) fun _ => Evl.et_and (Evl.et_test (Evl.ev_op (Evl.ev_op (Evl.ev_var rfl) Evl.ev_c Evl.rv_I0) (Evl.ev_len (Evl.ev_var rfl) hr8) (Evl.rv_eq rfl))) fun _ => Evl.et_test (Evl.ev_op (Evl.ev_op (Evl.ev_var rfl) Evl.ev_c (Evl.rv_ixT (SqT.of h8) (atI_nat (j := 0) rfl))) (Evl.ev_un Evl.ev_c Evl.ru_neg) (Evl.rv_ne rfl))) (by simp)) (fun hb => nomatch hb) (fun _ H9 s9 => ?_)
          exact ⟨s08.trans s9, lf2, _, _, _, (fun s' e => nomatch e), (fun _ => e2), rfl⟩
    rintro σ H' ⟨sH, lf, y5, y6, y7, _, hz, rfl⟩
    have lf0 := hz (List.getElem?_eq_none (by omega))
    subst lf0
    have u4 := t4.trans sH
    have hrH := sH _ _ hr4
    have dH := d4.same sH
    refine ⟨_, rfl, r, _, rfl, .inl (SqL.of hrH), fun k8 nk8 => ?_⟩
    have s8 := same_upd (o := .lst us) nk8
    have k8r : k8 ≠ r := fun z => by
      rw [z, hrH] at nk8
      cases nk8
    dsimp only [gName]
    refine ⟨_, rfl, .inl ⟨rfl, _, SqL.of (s8 _ _ hrH)⟩, r, _, rfl, rfl, s8 _ _ hrH, ?_⟩
    have d9 : DhAll (upd (upd H' k8 (.lst us)) r (.lst [])) us (t.map stD) := dh_states (fun c xs e => by
      have cr : c ≠ r := fun z => by
        rw [z, s8 _ _ hrH] at e
        cases e
      rw [upd_ne cr]
      exact e) (dH.same s8)
    have u9 : Same H (upd (upd H' k8 (.lst us)) r (.lst [])) := same_mut (u4.trans s8) nrr
    have hk9 : (upd (upd H' k8 (.lst us)) r (.lst [])) k8 = some (.lst us) := by rw [upd_ne k8r, upd_same]
    revert d9 u9 hk9
    generalize upd (upd H' k8 (.lst us)) r (.lst []) = H9
    intro d9 u9 hk9
    obtain ⟨z, z1, z2⟩ := tok.last
    have zy : z = y0 := by
      obtain ⟨q1, q2⟩ := last_max (ok.rise.filter _) z2
      have q3 := of_decide_eq_true (List.mem_filter.mp q1).2
      have q4 := q2 y0 (List.mem_filter.mpr ⟨ym, decide_eq_true (Int.le_refl y0)⟩)
      omega
    subst zy
    have tn : t[t.length - 1]? = some (0, z) := by rw [← List.getLast?_eq_getElem?]; exact z1
    obtain ⟨al, ul, kl⟩ := st_at d9 tn
    have uL : atI us (-1) = some (.ref al) := by
      have un : us ≠ [] := fun e => by
        rw [e] at ll
        have : ([] : List V).length = 0 := rfl
        omega
      obtain ⟨ini2, v2, e2⟩ : ∃ ini v, us = ini ++ [v] := ⟨_, _, (List.dropLast_concat_getLast un).symm⟩
      have e3 : us[t.length - 1]? = some v2 := by
        rw [← ll, e2, List.length_append]
        simp
      rw [e3] at ul
      rw [e2, ← Option.some.inj ul]
      exact atI_last _ _
    have rowj := map_at hj
    rw [hy] at rowj
    refine ⟨_, rfl, rfl, _, rfl, ite2 (fun _ => ?_) (fun z => (z (decide_eq_true rfl)).elim)⟩
    refine ⟨_, rfl, 1, rfl, k8, _, -1, _, rfl, rfl, SqL.of hk9, uL, al, _, 1, _, rfl, rfl, SqT.of kl, atI_nat (j := 1) rfl, _, rfl, _, rfl, a, _, _, _, rfl, rfl, u9.seq hA, atI_nat rowj, rfl, _, rfl, ite2 (fun _ => ?_) (fun z => (z (decide_eq_true rfl)).elim)⟩
    refine ⟨_, rfl, p, dx, fs, rfl, u9 _ _ hp, hm _ (by decide +kernel), _, rfl, p, wd, h, _, F, (j2 : Int), rfl, R.same hL u9, hlen, fun z => absurd z (by omega), fun j3 e3 _ H10 s10 => ?_⟩
    have ej3 : j3 = j2 := by omega
    subst ej3
    rw [hy]
    refine ⟨_, rfl, _, rfl, a, _, _, _, rfl, rfl, (u9.trans s10).seq hA, atI_nat rowj, rfl, _, rfl, ite2 (fun _ => ?_) (fun z => (z (decide_eq_true rfl)).elim)⟩
    have u10 := u9.trans s10
    refine ⟨_, rfl, p, dx, fs, rfl, u10 _ _ hp, hm _ (by decide +kernel), _, rfl, p, wd, h, _, F, _, (j3 : Int), rfl, View.nothing (R.same hL u10), hlen, fun z => absurd z (by omega), fun j4 e4 _ H11 G11 r11 ws v11 _ s11 _ _ hr11 d11 => ?_⟩
    have ej4 : j4 = j3 := by omega
    subst ej4
    rw [hy, et] at d11
    exact ⟨_, rfl, eqD_same (Dh.lst (v11.sub _ _ hr11) (d11.same v11.sub)).dp (Dh.lst (s11 _ _ (s10 _ _ hk9)) ((d9.same s10).same s11)).dp (shaped_trail _) (q H11 (u10.trans s11))⟩
theorem ok_l_filled (T : Txt K mg) (R : Rep K T.c_Ladder) (PR : Prog P w K mg base T R) : FnOk P w K mg base CX0 22 T.f_l_filled T.fd_l_filled ["_law_script", "_law_ladder", "_law_limit"] (sp_l_filled T R) := by
  have G_l_cell_at : FnOk P w K mg base CX0 1 T.f_l_cell_at T.fd_l_cell_at ["_law_script", "_law_k"] (sp_l_cell_at T R) := ok_l_cell_at T R PR
  have G_l_deed : FnOk P w K mg base CX0 21 T.f_l_deed T.fd_l_deed ["_law_ladder", "_law_row", "_law_gone", "_law_cell", "_law_limit"] (sp_l_deed T R) := ok_l_deed T R PR
  have G_ladder_take := PR.take
  refine T.F_l_filled.ok sc_l_filled (fun vs H Q E h => ?_) (fun cdv A outer s H vs Q E hr h => ?_)
  · obtain ⟨a, p, ns, wd, h, F, G, rfl, _⟩ := h
    rfl
  · obtain ⟨a, p, ns, wd, h, F, G, rfl, hS, hlen, v, q⟩ := h
    refine ⟨_, (pss_cons (ps_set (i := 3) sc_l_filled.nd rfl (.inl rfl) pe_dnewK)
      (pss_cons (ps_set (i := 4) sc_l_filled.nd rfl (.inl rfl) pe_dnewK)
      (Evl.pss_cut (ps_if (pt_cmpR op_eq (pe_op op_mod (pe_call G_l_cell_at (hr.mono (by decide)) (by rfl) T.g_l_cell_at T.F_l_cell_at.kp T.bd_l_cell_at .nil pass0 (pa_cons (pv 0) (pa_cons pe_int pa_nil))) pe_int) pe_int (nomark _)) (pss_cons (ps_for PassesOwn.never rfl (pi_range1 (by rfl) T.b_range (pa_cons pe_int pa_nil)) (pg_name (i := 5) sc_l_filled.nd rfl (.inl rfl)) (pss_one (ps_expr (pe_call G_l_deed hr (by rfl) T.g_l_deed T.F_l_deed.kp T.bd_l_deed .nil pass0 (pa_cons (pv 1) (pa_cons (pv 3) (pa_cons (pv 4) (pa_cons (pe_op op_mul pe_int (pe_op op_add (pe_op op_mul pe_int (pe_op op_add (pe_call G_l_cell_at (hr.mono (by decide)) (by rfl) T.g_l_cell_at T.F_l_cell_at.kp T.bd_l_cell_at .nil pass0 (pa_cons (pv 0) (pa_cons pe_int pa_nil))) (pe_op op_mul (pe_op op_mul pe_int (pv 5)) (pv 5)))) pe_int)) (pa_cons (pv 2) pa_nil)))))))))
      (pss_one (ps_for PassesOwn.never rfl (pi_list (pe_sliceS (by decide) (pe_callTy (call_list_dK rfl) (by rfl) T.b_list (by decide +kernel) (pa_cons (pv 3) pa_nil)) (po_some pe_int) po_none pe_int)) (pg_name (i := 6) sc_l_filled.nd rfl (.inl rfl)) (pss_cons (ps_expr (pe_dpop1 (pv 3) (pv 6) dict_m1))
      (pss_cons (ps_dput (hu_of hr) (pv 4) (pv 6) pe_bl rfl)
      (pss_one (ps_expr (pe_meth (pv 1) T.cl_Ladder T.m_ladder_take G_ladder_take (hr.mono (by decide)) T.bd_ladder_take .nil passL (pa_cons (pv 6) pa_nil))))))))) (pss_one (ps_for PassesOwn.never rfl (pi_list (pe_slice sl_list (pv 0) (po_some pe_int) (po_some pe_int))) (pg_name (i := 7) sc_l_filled.nd rfl (.inl rfl)) (pss_one (ps_expr (pe_call G_l_deed hr (by rfl) T.g_l_deed T.F_l_deed.kp T.bd_l_deed .nil pass0 (pa_cons (pv 1) (pa_cons (pv 3) (pa_cons (pv 4) (pa_cons (pv 7) (pa_cons (pv 2) pa_nil)))))))))))
      (pss_one (ps_ret (pe_tup (pa_cons (pv 3) (pa_cons (pv 4) pa_nil)))))))), ?_⟩
    have ok := R.ok v.lad
    have pl := pow_ge2 ok.w2 ok.h1
    refine fun d nd => ?_
    have v1 := v.new (o := .dK []) nd
    have ndG := v.sub.free nd
    dsimp only [gName]
    refine fun e ne => ?_
    have v2 := v1.new (o := .dK []) ne
    have neG1 := v1.sub.free ne
    have de : d ≠ e := ne_of_none (upd_same (H := G) (a := d) (o := .dK [])) neG1
    have neG : G e = none := by
      rw [upd_ne (Ne.symm de)] at neG1
      exact neG1
    have s02 : Same G (upd (upd G d (.dK [])) e (.dK [])) := (same_upd ndG).trans (same_upd neG1)
    dsimp only [gName]
    show Evl.tCut _ _ _ [nR a, nR p, nI (wd ^ h), nR d, nR e, none, none, none] _
    have hd0 : (upd (upd G d (.dK [])) e (.dK [])) d = some (.dK (dkv [])) := by
      rw [upd_ne de, upd_same]
      rfl
    have he0 : (upd (upd G d (.dK [])) e (.dK [])) e = some (.dK (dkv [])) := upd_same
    revert v2 s02 hd0 he0
    generalize upd (upd G d (.dK [])) e (.dK []) = G2
    generalize upd (upd H d (.dK [])) e (.dK []) = H2
    intro v2 s02 hd0 he0
    -- what a deed leaves
    have keep : ∀ {G1 G2 : Hp}, Same G G1 → (∀ b o, b ≠ d → b ≠ e → G1 b = some o → G2 b = some o) → Same G G2 := fun s f b o eb => f b o (fun z => by rw [z, ndG] at eb; cases eb) (fun z => by rw [z, neG] at eb; cases eb) (s b o eb)
    refine ⟨fun σ H' => ∃ G' F' xs rw gw y5 y6 y7, View R G' H' p wd h xs F' ∧ Same G G' ∧ G' d = some (.dK (dkv rw)) ∧ G' e = some (.dK (dkv gw)) ∧ rw.Perm xs ∧ xs.length ≤ 100 ∧ gw.length ≤ 200 ∧ σ = [nR a, nR p, nI (wd ^ h), nR d, nR e, y5, y6, y7], ?_, ?_⟩
    · have hA2 := v2.sub.seq (s02.seq hS)
      refine ⟨_, rfl, a, ns, 3, rfl, hA2, _, _, rfl, rfl, (by show (0 : Int) < 16; decide), rfl, _, rfl, ite2 (fun _ => ?_) (fun _ => ?_)⟩
      · -- a hundred numbers
        refine ⟨100, rfl, by omega, by omega, for_range (lo := 0) (n := 100) (fun i σ H' => ∃ G' F' xs rw gw y5, View R G' H' p wd h xs F' ∧ Same G G' ∧ G' d = some (.dK (dkv rw)) ∧ G' e = some (.dK (dkv gw)) ∧ rw.Perm xs ∧ xs.length ≤ i ∧ gw.length ≤ i ∧ σ = [nR a, nR p, nI (wd ^ h), nR d, nR e, y5, none, none])
          ⟨G2, F, [], [], [], none, v2, s02, hd0, he0, List.Perm.refl _, Nat.le_refl _, Nat.le_refl _, rfl⟩ ?_ ?_⟩
        · rintro i σ H' hi ⟨G', F', xs, rw, gw, y5, v', s', hd', he', pm, lx, lg, rfl⟩
          rw [Int.zero_add]
          dsimp only [gName]
          refine ⟨_, rfl, _, rfl, _, rfl, _, rfl, a, ns, 2, rfl, v'.sub.seq (s'.seq hS), _, rfl, _, _, rfl, rfl, .inl ⟨by decide, by decide⟩, _, rfl, _, _, rfl, rfl, .inl ⟨by omega, by omega⟩, _, _, rfl, rfl, _, _, rfl, rfl, .inl ⟨by decide, by decide⟩, _, _, rfl, rfl, _, _, rfl, rfl, .inl ⟨by decide, by decide⟩, _, rfl, p, d, e, wd, h, xs, F', G', rw, gw, _, rfl, v', hd', he', de, pm, by omega, by omega, fun H3 G3 F3 xs2 rw2 gw2 v3 p3 hd3 he3 pm3 lx3 lg3 => ?_⟩
          exact ⟨G3, F3, xs2, rw2, gw2, _, v3, keep s' p3, hd3, he3, pm3, by omega, by omega, rfl⟩
        rintro σ H' ⟨G', F', xs, rw, gw, y5, v', s', hd', he', pm, lx, lg, rfl⟩
        have hdH := v'.sub _ _ hd'
        have ok' := R.ok v'.lad
        -- each third one is taken out again
        refine ⟨_, rfl, d, dkv rw, rfl, hdH, fun l nl => ?_⟩
        have e2 : (dkv rw).map (fun kv => kV kv.1) = rw.map V.int := by
          unfold dkv
          rw [List.map_map]
          rfl
        rw [e2]
        have sub := stepI_sub rw (some 1) none (c := 3) (by decide)
        have sl := sub.length_le
        have lr := pm.length_eq
        have v3 := v'.new (o := .lst (rw.map V.int)) nl
        have n3 := v'.sub.free nl
        refine ⟨1, rfl, l, _, rfl, SqL.of upd_same, ?_, fun c nc => ?_⟩
        · rw [stepV_ints, List.length_map]
          exact Nat.le_of_lt (small1000 (by omega))
        rw [stepV_ints]
        have v4 := v3.new (o := .lst ((stepI rw (some 1) none 3).map V.int)) nc
        have n4 := v3.sub.free nc
        have s4 := (s'.trans (same_upd n3)).trans (same_upd (o := .lst ((stepI rw (some 1) none 3).map V.int)) n4)
        have hd4 := (same_upd (o := .lst ((stepI rw (some 1) none 3).map V.int)) n4) _ _ ((same_upd (o := .lst (rw.map V.int)) n3) _ _ hd')
        have he4 := (same_upd (o := .lst ((stepI rw (some 1) none 3).map V.int)) n4) _ _ ((same_upd (o := .lst (rw.map V.int)) n3) _ _ he')
        have hc4 : (upd (upd G' l (.lst (rw.map V.int))) c (.lst ((stepI rw (some 1) none 3).map V.int))) c = some (.lst ((stepI rw (some 1) none 3).map V.int)) := upd_same
        have nod := (pm.nodup_iff.mpr (nodup_rise ok'.rise)).sublist sub
        have mem : ∀ x ∈ stepI rw (some 1) none 3, x ∈ rw := fun x hx => sub.subset hx
        revert v4 s4 hd4 he4 hc4 nod mem sl
        generalize upd (upd G' l (.lst (rw.map V.int))) c (.lst ((stepI rw (some 1) none 3).map V.int)) = G4
        generalize upd (upd H' l (.lst (rw.map V.int))) c (.lst ((stepI rw (some 1) none 3).map V.int)) = H4
        generalize stepI rw (some 1) none 3 = zs
        intro sl v4 s4 hd4 he4 hc4 nod mem
        have cd : c ≠ d := fun z => by
          rw [z, hd4] at hc4
          cases hc4
        have ce : c ≠ e := fun z => by
          rw [z, he4] at hc4
          cases hc4
        refine ⟨c, rfl, ⟨_, SqL.of (v4.sub _ _ hc4)⟩, ?_⟩
        refine for_list (K := K) (a := c) (xs := zs.map V.int) (fun i σ H' => ∃ G' F' xs rw gw y6, View R G' H' p wd h xs F' ∧ Same G G' ∧ G' c = some (.lst (zs.map V.int)) ∧ G' d = some (.dK (dkv rw)) ∧ G' e = some (.dK (dkv gw)) ∧ rw.Perm xs ∧ xs.length ≤ 100 ∧ gw.length ≤ 100 + i ∧ (∀ j, i ≤ j → j < zs.length → zs.getD j 0 ∈ rw) ∧ σ = [nR a, nR p, nI (wd ^ h), nR d, nR e, y5, y6, none])
          ⟨G4, F', xs, rw, gw, none, v4, s4, hc4, hd4, he4, pm, lx, by omega, fun j _ hj => mem _ (mem_at hj), rfl⟩ (fun i σ H' _ hh => ?_) ?_ ?_
        · obtain ⟨G', F', xs, rw, gw, y6, v', s', hc', _⟩ := hh
          exact SqL.of (v'.sub _ _ hc')
        · rintro i x σ H' hi ⟨G', F', xs, rw, gw, y6, v', s', hc', hd', he', pm, lx, lg, rest, rfl⟩
          obtain ⟨il, rfl, _⟩ := int_at hi
          have m := rest i (Nat.le_refl _) il
          generalize hn : zs.getD i 0 = n at m
          have mx : n ∈ xs := pm.mem_iff.mp m
          have ok2 := R.ok v'.lad
          have n0 := ok2.lo _ mx
          have n1 := ok2.hi _ mx
          dsimp only [gName]
          have hv := dkv_val n rw
          obtain ⟨vv, hvv⟩ : ∃ vv, valV (dkv rw) (Sum.inl n) = some vv := Option.isSome_iff_exists.mp (by rw [hv]; exact decide_eq_true m)
          have hd2 := v'.sub _ _ hd'
          refine ⟨_, rfl, d, rfl, .inl ⟨_, .inl hd2⟩, _, rfl, dkv rw, Sum.inl n, vv, hd2, rfl, hvv, ?_⟩
          rw [dkv_drop]
          have v3 := v'.mut (o := .dK (dkv (rw.filter fun y => !decide (y = n)))) hd'
          have he3 : (upd G' d (.dK (dkv (rw.filter fun y => !decide (y = n))))) e = some (.dK (dkv gw)) := by rw [upd_ne (Ne.symm de)]; exact he'
          obtain ⟨gw2, eg, gl⟩ := dkv_set n gw
          have sz : (dkv gw).length < sizeLine := by
            rw [dkv_len]
            exact small1000 (by omega)
          refine ⟨_, rfl, _, rfl, e, _, rfl, DPut.k (k := Sum.inl n) (v3.sub _ _ he3) sz, ?_⟩
          rw [eg]
          have v4 := v3.mut (o := .dK (dkv gw2)) he3
          obtain ⟨dx3, fs3, hp3, _, _, _, _, hm3⟩ := R.ins v4.lad
          refine ⟨_, rfl, p, dx3, fs3, rfl, hp3, hm3 _ (by decide +kernel), _, rfl, p, wd, h, xs, F', _, n, rfl, v4, by omega, fun z => absurd z (by omega), fun _ _ z => absurd mx z, fun _ H5 G5 F5 r us v5 s5 nr hr db => ?_⟩
          have far : ∀ b o, b ≠ d → b ≠ e → G' b = some o → G5 b = some o := fun b o hb hb2 eb => s5 _ _ (by rw [upd_ne hb2, upd_ne hb]; exact eb)
          refine ⟨G5, F5, remR n xs, rw.filter fun y => !decide (y = n), gw2, _, v5, keep s' far, far _ _ cd ce hc', s5 _ _ (by rw [upd_ne de, upd_same]), s5 _ _ upd_same, pm.filter _, Nat.le_trans (remR_len n xs) lx, by omega, fun j hj jl => ?_, rfl⟩
          refine List.mem_filter.mpr ⟨rest j (by omega) jl, ?_⟩
          rw [Bool.not_eq_true', decide_eq_false_iff_not, ← hn, getD_eq jl, getD_eq il]
          intro z
          have := (List.nodup_iff_pairwise_ne.mp nod)
          have q2 := List.pairwise_iff_getElem.mp this i j il jl (by omega)
          exact q2 z.symm
        rintro σ H' ⟨G', F', xs, rw, gw, y6, v', s', hc', hd', he', pm, lx, lg, rest, rfl⟩
        rw [List.length_map] at lg
        exact ⟨G', F', xs, rw, gw, _, _, _, v', s', hd', he', pm, lx, by omega, rfl⟩
      · -- a row of deeds
        obtain ⟨zs, ez, lz⟩ : ∃ zs : List Int, cutV (ns.map V.int) (some 4) (some 104) = zs.map V.int ∧ zs.length ≤ 63 := ⟨(ns.drop _).take _, by unfold cutV; rw [List.map_take, List.map_drop], Nat.le_trans (List.length_take_le' _ _) (by rw [List.length_drop]; omega)⟩
        refine ⟨_, rfl, 4, rfl, 104, rfl, a, _, rfl, hA2, fun c nc => ⟨c, rfl, ⟨_, SqL.of upd_same⟩, ?_⟩⟩
        rw [ez]
        have v3 := v2.new (o := .lst (zs.map V.int)) nc
        have nc2 := v2.sub.free nc
        have cd : c ≠ d := fun z => by
          rw [z, hd0] at nc2
          cases nc2
        have ce : c ≠ e := fun z => by
          rw [z, he0] at nc2
          cases nc2
        refine for_list (K := K) (a := c) (xs := zs.map V.int) (fun i σ H' => ∃ G' F' xs rw gw y7, View R G' H' p wd h xs F' ∧ Same G G' ∧ G' c = some (.lst (zs.map V.int)) ∧ G' d = some (.dK (dkv rw)) ∧ G' e = some (.dK (dkv gw)) ∧ rw.Perm xs ∧ xs.length ≤ i ∧ gw.length ≤ i ∧ σ = [nR a, nR p, nI (wd ^ h), nR d, nR e, none, none, y7])
          ⟨_, F, [], [], [], none, v3, s02.trans (same_upd nc2), upd_same, (same_upd nc2) _ _ hd0, (same_upd nc2) _ _ he0, List.Perm.refl _, Nat.le_refl _, Nat.le_refl _, rfl⟩ (fun i σ H' _ hh => ?_) ?_ ?_
        · obtain ⟨G', F', xs, rw, gw, y7, v', s', hc', _⟩ := hh
          exact SqL.of (v'.sub _ _ hc')
        · rintro i x σ H' hi ⟨G', F', xs, rw, gw, y7, v', s', hc', hd', he', pm, lx, lg, rfl⟩
          obtain ⟨il, rfl, _⟩ := int_at hi
          dsimp only [gName]
          refine ⟨_, rfl, _, rfl, _, rfl, _, rfl, _, rfl, p, d, e, wd, h, xs, F', G', rw, gw, _, rfl, v', hd', he', de, pm, by omega, by omega, fun H3 G3 F3 xs2 rw2 gw2 v3 p3 hd3 he3 pm3 lx3 lg3 => ?_⟩
          exact ⟨G3, F3, xs2, rw2, gw2, _, v3, keep s' p3, p3 _ _ cd ce hc', hd3, he3, pm3, by omega, by omega, rfl⟩
        rintro σ H' ⟨G', F', xs, rw, gw, y7, v', s', hc', hd', he', pm, lx, lg, rfl⟩
        rw [List.length_map] at lx lg
        exact ⟨G', F', xs, rw, gw, _, _, _, v', s', hd', he', pm, by omega, by omega, rfl⟩
    rintro σ H' ⟨G', F', xs, rw, gw, y5, y6, y7, v', s', hd', he', pm, lx, lg, rfl⟩
    refine ⟨_, rfl, _, rfl, (by show 2 ≤ sizeLine; decide), fun t nt => ?_⟩
    have v6 := v'.new (o := .tup [.ref d, .ref e]) nt
    have nt2 := v'.sub.free nt
    have s6 := same_upd (o := .tup [.ref d, .ref e]) nt2
    exact q _ _ F' xs rw gw d e t v6 (s'.trans s6) (s6 _ _ hd') (s6 _ _ he') de pm lx lg upd_same
theorem ok_law {f : Addr} {fd : FuncData} (F : Fun K "law" "law" s_law f fd) (T : Txt K mg) (R : Rep K T.c_Ladder) (PR : Prog P w K mg base T R) : FnOk P w K mg base CX0 23 f fd ["_law_script"] (sp_law K) := by
  have G_ladder_init := PR.init
  have G_l_filled : FnOk P w K mg base CX0 22 T.f_l_filled T.fd_l_filled ["_law_script", "_law_ladder", "_law_limit"] (sp_l_filled T R) := ok_l_filled T R PR
  have G_l_number : FnOk P w K mg base CX0 1 T.f_l_number T.fd_l_number ["_law_cell", "_law_limit"] (sp_l_number T R) := ok_l_number T R PR
  have G_ladder_stretch := PR.stretch
  have G_l_cell_at : FnOk P w K mg base CX0 1 T.f_l_cell_at T.fd_l_cell_at ["_law_script", "_law_k"] (sp_l_cell_at T R) := ok_l_cell_at T R PR
  have G_l_missing : FnOk P w K mg base CX0 21 T.f_l_missing T.fd_l_missing ["_law_ladder", "_law_number_here"] (sp_l_missing T R) := ok_l_missing T R PR
  have G_l_no_place : FnOk P w K mg base CX0 21 T.f_l_no_place T.fd_l_no_place ["_law_ladder", "_law_place"] (sp_l_no_place T R) := ok_l_no_place T R PR
  have G_ladder_way := PR.way
  have G_l_way : FnOk P w K mg base CX0 21 T.f_l_way T.fd_l_way ["_law_ladder", "_law_row", "_law_place"] (sp_l_way T R) := ok_l_way T R PR
  have G_ladder_at := PR.at_
  have G_l_refused : FnOk P w K mg base CX0 21 T.f_l_refused T.fd_l_refused ["_law_ladder", "_law_low", "_law_high"] (sp_l_refused T R) := ok_l_refused T R PR
  have G_l_stretch : FnOk P w K mg base CX0 21 T.f_l_stretch T.fd_l_stretch ["_law_ladder", "_law_row", "_law_low", "_law_high"] (sp_l_stretch T R) := ok_l_stretch T R PR
  refine F.ok sc_law (fun vs H Q E h => ?_) (fun cdv A outer s H vs Q E hr h => ?_)
  · obtain ⟨a, ns, rfl, _⟩ := h
    rfl
  · obtain ⟨a, ns, rfl, hS, hlen, q⟩ := h
    refine ⟨_, (pss_cons (ps_set (i := 1) sc_law.nd rfl (.inl rfl) (pe_op op_add pe_int (pe_op op_mod (pe_call G_l_cell_at (hr.mono (by decide)) (by rfl) T.g_l_cell_at T.F_l_cell_at.kp T.bd_l_cell_at .nil pass0 (pa_cons (pv 0) (pa_cons pe_int pa_nil))) pe_int)))
      (pss_cons (ps_set (i := 2) sc_law.nd rfl (.inl rfl) pe_int)
      (pss_cons (ps_for PassesOwn.never rfl (pi_range1 (by rfl) T.b_range (pa_cons (pe_op op_add pe_int (pe_op op_mod (pe_call G_l_cell_at (hr.mono (by decide)) (by rfl) T.g_l_cell_at T.F_l_cell_at.kp T.bd_l_cell_at .nil pass0 (pa_cons (pv 0) (pa_cons pe_int pa_nil))) pe_int)) pa_nil)) (pg_name (i := 3) sc_law.nd rfl (.inl rfl)) (pss_one (ps_set (i := 2) sc_law.nd rfl (.inl rfl) (pe_op op_mul (pv 2) (pv 1)))))
      (pss_cons (ps_set (i := 4) sc_law.nd rfl (.inr rfl) (pe_make T.mk_Ladder G_ladder_init (hr.mono (by decide)) (by rfl) T.x_Ladder T.bd_ladder_init .nil passL (pa_cons (pv 1) (pa_cons (pe_op op_add pe_int (pe_op op_mod (pe_call G_l_cell_at (hr.mono (by decide)) (by rfl) T.g_l_cell_at T.F_l_cell_at.kp T.bd_l_cell_at .nil pass0 (pa_cons (pv 0) (pa_cons pe_int pa_nil))) pe_int)) pa_nil))))
      (pss_cons (ps_asg (pe_call G_l_filled hr (by rfl) T.g_l_filled T.F_l_filled.kp T.bd_l_filled .nil pass0 (pa_cons (pv 0) (pa_cons (pv 4) (pa_cons (pv 2) pa_nil)))) (pg_tup rfl (pgs_cons (pg_name (i := 5) sc_law.nd rfl (.inr rfl)) (pgs_cons (pg_name (i := 6) sc_law.nd rfl (.inl rfl)) pgs_nil))))
      (pss_cons (ps_lock (ps_setLc (i := 6) (own := [("_law_number_here", 7)]) (g := gName 7) (by rfl) sc_law.nd rfl rfl (sw_true rfl rfl rfl (by decide +kernel)) (pi_keys (pv 6)) (blkOk_by (own := [("_law_number_here", 7)]) (N := ["_law_script", "_law_width", "_law_limit", "_law_turn", "_law_ladder", "_law_row", "_law_gone", "_law_number_here", "_law_held", "_law_one", "_law_kept", "_law_two", "_law_far", "_law_pair", "_law_place"]) (sc := defScope s_law) (by decide +kernel)) (fun _ _ _ _ _ => (pg_name (i := 7) sc_law.nd rfl (Or.inl rfl))) (fun _ _ _ _ _ => (pts_one (pt_cmp (pc_dnotin (hu_of hr) (pv 7) (pv 5))))) (fun _ _ _ _ _ => (pv 7))))
      (pss_cons (ps_set (i := 5) sc_law.nd rfl (.inr rfl) (pe_callB (call_sortedDA rfl) (by rfl) T.b_sorted (by decide +kernel) (pa_cons (pv 5) pa_nil)))
      (pss_cons (ps_for PassesOwn.never rfl (pi_list (pe_slice sl_list (pv 6) po_none (po_some pe_int))) (pg_name (i := 7) sc_law.nd rfl (.inl rfl)) (pss_one (ps_if (pt_not (pt_val (pe_call G_l_missing (hr.mono (by decide)) (by rfl) T.g_l_missing T.F_l_missing.kp T.bd_l_missing .nil pass0 (pa_cons (pv 4) (pa_cons (pv 7) pa_nil))))) (pss_one (ps_ret pe_bl)) pss_nil)))
      (pss_cons (ps_if (PW.pt (pw_or (pt_not (pt_val (pe_call G_l_no_place (hr.mono (by decide)) (by rfl) T.g_l_no_place T.F_l_no_place.kp T.bd_l_no_place .nil pass0 (pa_cons (pv 4) (pa_cons (pe_callB call_len_seq (by rfl) T.b_len PySem.boot_len (pa_cons (pv 5) pa_nil)) pa_nil))))) (pw_or1 (pt_not (pt_val (pe_call G_l_no_place (hr.mono (by decide)) (by rfl) T.g_l_no_place T.F_l_no_place.kp T.bd_l_no_place .nil pass0 (pa_cons (pv 4) (pa_cons (pe_op op_sub (pe_un un_neg pe_int) (pe_op op_mod (pe_call G_l_cell_at (hr.mono (by decide)) (by rfl) T.g_l_cell_at T.F_l_cell_at.kp T.bd_l_cell_at .nil pass0 (pa_cons (pv 0) (pa_cons pe_int pa_nil))) (pe_op op_pow pe_int pe_int))) pa_nil)))))))) (pss_one (ps_ret pe_bl)) pss_nil)
      (pss_cons (ps_set (i := 8) sc_law.nd rfl (.inl rfl) (pe_lst (pa_cons (pe_meth (pv 4) T.cl_Ladder T.m_ladder_stretch G_ladder_stretch (hr.mono (by decide)) T.bd_ladder_stretch .nil passL (pa_cons pe_int (pa_cons (pv 2) pa_nil))) pa_nil)))
      (Evl.pss_cut (ps_if (pt_cmpR (op_neD hr.units) (pv 5) (pe_lst pa_nil) (nomark _)) (pss_one (ps_expr (pe_bm PySem.F.plainAttrs_list PySem.F.slot_list_append PySem.F.type_list_append mt_append (pv 8) (pa_cons (pe_meth (pv 4) T.cl_Ladder T.m_ladder_way G_ladder_way (hr.mono (by decide)) T.bd_ladder_way .nil passL (pa_cons (pe_op op_mod (pe_call G_l_cell_at (hr.mono (by decide)) (by rfl) T.g_l_cell_at T.F_l_cell_at.kp T.bd_l_cell_at .nil pass0 (pa_cons (pv 0) (pa_cons pe_int pa_nil))) (pe_callB call_len_seq (by rfl) T.b_len PySem.boot_len (pa_cons (pv 5) pa_nil))) pa_nil)) pa_nil)))) pss_nil)
      (pss_cons (ps_setLc (i := 10) (own := [("_law_one", 9)]) (g := gName 9) (by rfl) sc_law.nd rfl rfl (sw_true rfl rfl rfl (by decide +kernel)) (pi_list (pv 8)) (blkOk_by (own := [("_law_one", 9)]) (N := ["_law_script", "_law_width", "_law_limit", "_law_turn", "_law_ladder", "_law_row", "_law_gone", "_law_number_here", "_law_held", "_law_one", "_law_kept", "_law_two", "_law_far", "_law_pair", "_law_place"]) (sc := defScope s_law) (by decide +kernel)) (fun _ _ _ _ _ => (pg_name (i := 9) sc_law.nd rfl (Or.inl rfl))) (fun _ _ _ _ _ => pts_nil) (fun _ _ _ _ _ => (pe_callTy (T := "list") (show CallR _ _ (Evl.rListS K) from call_list_of) (by rfl) T.b_list (by decide +kernel) (pa_cons (pv 9) pa_nil))))
      (pss_cons (ps_if (PW.pt (pw_and (pt_cmpR (op_neD hr.units) (pv 5) (pe_lst pa_nil) (nomark _)) (pw_and1 (pt_not (pt_val (pe_call G_l_way (hr.mono (by decide)) (by rfl) T.g_l_way T.F_l_way.kp T.bd_l_way .nil pass0 (pa_cons (pv 4) (pa_cons (pv 5) (pa_cons (pe_op op_mod (pe_call G_l_cell_at (hr.mono (by decide)) (by rfl) T.g_l_cell_at T.F_l_cell_at.kp T.bd_l_cell_at .nil pass0 (pa_cons (pv 0) (pa_cons pe_int pa_nil))) (pe_callB call_len_seq (by rfl) T.b_len PySem.boot_len (pa_cons (pv 5) pa_nil))) pa_nil))))))))) (pss_one (ps_ret pe_bl)) pss_nil)
      (pss_cons (ps_if (pt_cmpR (op_neD hr.units) (pe_lc (own := [("_law_place", 14)]) (g := gName 14) (by rfl) sc_law.nd (pi_range1 (by rfl) T.b_range (pa_cons (pe_callB call_len_seq (by rfl) T.b_len PySem.boot_len (pa_cons (pv 5) pa_nil)) pa_nil)) (blkOk_by (own := [("_law_place", 14)]) (N := ["_law_script", "_law_width", "_law_limit", "_law_turn", "_law_ladder", "_law_row", "_law_gone", "_law_number_here", "_law_held", "_law_one", "_law_kept", "_law_two", "_law_far", "_law_pair", "_law_place"]) (sc := defScope s_law) (by decide +kernel)) (fun _ _ _ _ _ => (pg_name (i := 14) sc_law.nd rfl (Or.inl rfl))) (fun _ _ _ _ _ => pts_nil) (fun _ _ _ _ _ => (pe_meth (pv 4) T.cl_Ladder T.m_ladder_at G_ladder_at (hr.mono (by decide)) T.bd_ladder_at .nil passL (pa_cons (pv 14) pa_nil)))) (pv 5) (nomark _)) (pss_one (ps_ret pe_bl)) pss_nil)
      (pss_cons (ps_set (i := 9) sc_law.nd rfl (.inl rfl) (pe_call G_l_number (hr.mono (by decide)) (by rfl) T.g_l_number T.F_l_number.kp T.bd_l_number .nil pass0 (pa_cons (pe_call G_l_cell_at (hr.mono (by decide)) (by rfl) T.g_l_cell_at T.F_l_cell_at.kp T.bd_l_cell_at .nil pass0 (pa_cons (pv 0) (pa_cons pe_int pa_nil))) (pa_cons (pe_op op_add (pv 2) pe_int) pa_nil))))
      (pss_cons (ps_set (i := 11) sc_law.nd rfl (.inl rfl) (pe_call G_l_number (hr.mono (by decide)) (by rfl) T.g_l_number T.F_l_number.kp T.bd_l_number .nil pass0 (pa_cons (pe_call G_l_cell_at (hr.mono (by decide)) (by rfl) T.g_l_cell_at T.F_l_cell_at.kp T.bd_l_cell_at .nil pass0 (pa_cons (pv 0) (pa_cons pe_int pa_nil))) (pa_cons (pe_op op_add (pv 2) pe_int) pa_nil))))
      (pss_cons (ps_set (i := 12) sc_law.nd rfl (.inl rfl) (pe_op op_mod (pe_call G_l_cell_at (hr.mono (by decide)) (by rfl) T.g_l_cell_at T.F_l_cell_at.kp T.bd_l_cell_at .nil pass0 (pa_cons (pv 0) (pa_cons pe_int pa_nil))) (pe_op op_pow pe_int pe_int)))
      (pss_cons (ps_for PassesOwn.never rfl (pi_list (pe_lst (pa_cons (pe_tup (pa_cons (pe_op op_add (pe_op op_add (pv 2) pe_int) (pv 12)) (pa_cons (pv 9) pa_nil))) (pa_cons (pe_tup (pa_cons (pv 9) (pa_cons (pe_op op_add (pe_op op_add (pv 2) pe_int) (pv 12)) pa_nil))) (pa_cons (pe_tup (pa_cons (pe_op op_sub (pe_un un_neg pe_int) (pv 12)) (pa_cons (pv 9) pa_nil))) (pa_cons (pe_tup (pa_cons (pv 9) (pa_cons (pe_op op_sub (pe_un un_neg pe_int) (pv 12)) pa_nil))) pa_nil)))))) (pg_name (i := 13) sc_law.nd rfl (.inl rfl)) (pss_one (ps_if (pt_not (pt_val (pe_call G_l_refused (hr.mono (by decide)) (by rfl) T.g_l_refused T.F_l_refused.kp T.bd_l_refused .nil pass0 (pa_cons (pv 4) (pa_cons (pe_ix ix_tup (pv 13) pe_int (fun _ _ => rfl)) (pa_cons (pe_ix ix_tup (pv 13) pe_int (fun _ _ => rfl)) pa_nil)))))) (pss_one (ps_ret pe_bl)) pss_nil)))
      (pss_cons (ps_for PassesOwn.never rfl (pi_list (pe_lst (pa_cons (pe_tup (pa_cons (pv 9) (pa_cons (pv 11) pa_nil))) (pa_cons (pe_tup (pa_cons (pv 11) (pa_cons (pv 9) pa_nil))) (pa_cons (pe_tup (pa_cons pe_int (pa_cons (pv 2) pa_nil))) pa_nil))))) (pg_name (i := 13) sc_law.nd rfl (.inl rfl)) (pss_one (ps_if (pt_not (pt_val (pe_call G_l_stretch (hr.mono (by decide)) (by rfl) T.g_l_stretch T.F_l_stretch.kp T.bd_l_stretch .nil pass0 (pa_cons (pv 4) (pa_cons (pv 5) (pa_cons (pe_ix ix_tup (pv 13) pe_int (fun _ _ => rfl)) (pa_cons (pe_ix ix_tup (pv 13) pe_int (fun _ _ => rfl)) pa_nil))))))) (pss_one (ps_ret pe_bl)) pss_nil)))
      (pss_one (ps_ret (pe_and (pe_cmpR (op_eqD hr.units) (pv 8) (pv 10) (nomark _)) (pe_one (pe_cmpR (op_eqD hr.units) (pe_ix ix_list (pv 8) pe_int (fun _ _ => rfl)) (pv 5) (nomark _))))))))))))))))))))))))), ?_⟩
    obtain ⟨wd, ew, w1, w2⟩ : ∃ wd, 2 + cellOf ns 0 % 8 = wd ∧ 2 ≤ wd ∧ wd ≤ 9 := ⟨_, rfl, by omega, by omega⟩
    obtain ⟨h, eh, l1, l12⟩ : ∃ h : Nat, 1 + cellOf ns 1 % 12 = (h : Int) ∧ 1 ≤ h ∧ h ≤ 12 := ⟨(1 + cellOf ns 1 % 12).toNat, by omega, by omega, by omega⟩
    have pl := pow_ge2 w1 l1
    have pl12 := pow_le12 w1 w2 l12
    refine ⟨_, rfl, a, ns, 0, rfl, hS, _, _, rfl, rfl, (by show (0 : Int) < 8; decide), _, _, rfl, rfl, ?_⟩
    dsimp only [gName]
    show tSeq _ _ _ [nR a, nI (2 + cellOf ns 0 % 8), none, none, none, none, none, none, none, none, none, none, none, none, none] _
    rw [ew]
    refine ⟨_, rfl, a, ns, 1, rfl, hS, _, _, rfl, rfl, (by show (0 : Int) < 12; decide), _, _, rfl, rfl, (h : Int), congrArg (fun t => [V.int t]) eh, by omega, by omega, for_range (lo := 0) (n := h) (fun i σ H' => H' = H ∧ ∃ y, σ = [nR a, nI wd, nI (wd ^ i), y, none, none, none, none, none, none, none, none, none, none, none]) ⟨rfl, none, by rw [Int.pow_zero]; rfl⟩ ?_ ?_⟩
    · rintro i σ H' hi ⟨rfl, y, rfl⟩
      refine ⟨_, rfl, _, rfl, _, _, rfl, rfl, .inr ⟨by omega, by omega⟩, rfl, nI (0 + (i : Int)), ?_⟩
      rw [Int.pow_succ]
      rfl
    rintro σ H1 ⟨rfl, y, rfl⟩
    refine ⟨_, rfl, _, rfl, a, ns, 1, rfl, hS, _, _, rfl, rfl, (by show (0 : Int) < 12; decide), _, _, rfl, rfl, fun p dx np ndx ne => ⟨H1, p, dx, wd, (h : Int), ?_, rfl, np, ndx, ne, fun z => absurd z (by omega), fun l2 el _ _ _ _ H2 F hL s2 out => ⟨rfl, ?_⟩⟩⟩
    · rw [← eh]
      rfl
    have el2 : l2 = h := by omega
    subst el2
    refine ⟨_, rfl, _, rfl, _, rfl, a, p, ns, wd, l2, F, H1, rfl, hS, hlen, ⟨hL, s2, out⟩, fun H3 G3 F3 xs rw gw d e t v3 s3 hd he de pm lx lg ht => ?_⟩
    refine ⟨t, _, rfl, SqT.of (v3.sub _ _ ht), rfl, _, _, rfl, _, _, rfl, rfl, ?_⟩
    have hA3 := s3.seq hS
    have ok := R.ok v3.lad
    dsimp only [gName]
    have heH := v3.sub _ _ he
    have hdH := v3.sub _ _ hd
    -- those that are gone
    refine ⟨e, .dK (dkv gw), heH, trivial, fun od => ⟨_, rfl, e, od, rfl, .inl ⟨dkv gw, upd_same, fun D nD => ?_⟩⟩⟩
    have De : D ≠ e := fun z => by
      rw [z, upd_same] at nD
      cases nD
    have hd3 : (upd H3 e (.frz od (.dK (dkv gw)))) d = some (.dK (dkv rw)) := by rw [upd_ne de]; exact hdH
    refine lc_keys (fun i H' => Same (upd H3 e (.frz od (.dK (dkv gw)))) H' ∧ H' D = some (.lst (((gw.take i).filter fun x => !decide (x ∈ rw)).map V.int))) ⟨same_upd nD, upd_same⟩ (fun i H' hh => hh.1 _ _ upd_same) (fun i kk vv H' hk hh => ?_) (fun H4 hh => ?_)
    · obtain ⟨il, rfl⟩ := dkv_at hk
      obtain ⟨sH, hD⟩ := hh
      have hv := dkv_val (gw.getD i 0) rw
      have ex := take_next (fun x => !decide (x ∈ rw)) il
      generalize gw.getD i 0 = n at hv ex
      refine ⟨rfl, _, rfl, _, rfl, d, _, rfl, DGet.k (k := Sum.inl n) (sH _ _ hd3), _, rfl, ite2 (fun z => ?_) (fun z => ?_)⟩
      · rw [hv] at z
        rw [if_pos z] at ex
        refine ⟨_, rfl, _, hD, ?_, same_mut sH nD, ?_⟩
        · rw [List.length_map]
          have := List.length_filter_le (fun x => !decide (x ∈ rw)) (gw.take i)
          rw [List.length_take] at this
          exact small1000 (by omega)
        · rw [upd_same, ex, List.map_append]
          rfl
      · rw [hv] at z
        rw [if_neg z, List.append_nil] at ex
        exact ⟨sH, by rw [ex]; exact hD⟩
    obtain ⟨sH, hD⟩ := hh
    rw [show (dkv gw).length = gw.length from dkv_len gw, List.take_length] at hD
    refine ⟨sH _ _ upd_same, ?_⟩
    have s34 := same_unlock heH sH
    have hD4 : (upd H4 e (.dK (dkv gw))) D = some (.lst ((gw.filter fun x => !decide (x ∈ rw)).map V.int)) := by rw [upd_ne De]; exact hD
    have v4 := v3.grow s34
    have lz : (gw.filter fun x => !decide (x ∈ rw)).length ≤ 200 := Nat.le_trans (List.length_filter_le _ _) lg
    have mz : ∀ x ∈ gw.filter fun x => !decide (x ∈ rw), x ∉ xs := fun x hx z => by
      have q1 := (List.mem_filter.mp hx).2
      rw [Bool.not_eq_true', decide_eq_false_iff_not] at q1
      exact q1 (pm.mem_iff.mpr z)
    revert v4 hD4 lz mz
    generalize upd H4 e (.dK (dkv gw)) = H5
    generalize (gw.filter fun x => !decide (x ∈ rw)) = zs
    intro hD4 v4 lz mz
    dsimp only [gName]
    -- sorted
    refine ⟨_, rfl, d, dkv rw, rw, rfl, .inl (v4.sub _ _ hd), dkv_keys rw, fun xs' r2 pm2 rise2 nr2 => ?_⟩
    have exs : xs' = xs := PySem.W.ksm_same (pm2.trans pm) rise2 (ok.rise.imp fun h => Int.le_of_lt h)
    subst exs
    have v5 := v4.new (o := .lst (xs'.map V.int)) nr2
    have n5 := v4.sub.free nr2
    have s5 := s3.trans (same_upd (o := .lst (xs'.map V.int)) n5)
    have hD5 := (same_upd (o := .lst (xs'.map V.int)) nr2) _ _ hD4
    have hR5 : (upd G3 r2 (.lst (xs'.map V.int))) r2 = some (.lst (xs'.map V.int)) := upd_same
    revert v5 s5 hD5 hR5
    generalize upd G3 r2 (.lst (xs'.map V.int)) = G5
    generalize upd H5 r2 (.lst (xs'.map V.int)) = H6
    intro v5 s5 hD5 hR5
    dsimp only [gName]
    -- those that are gone are missing
    obtain ⟨ys, ey, ly, my⟩ : ∃ ys : List Int, cutV (zs.map V.int) none (some 9) = ys.map V.int ∧ ys.length ≤ 200 ∧ ∀ x ∈ ys, x ∈ zs := ⟨(zs.drop _).take _, by unfold cutV; rw [List.map_take, List.map_drop], Nat.le_trans (List.length_take_le' _ _) (by rw [List.length_drop]; omega), fun x hx => List.mem_of_mem_drop (List.mem_of_mem_take hx)⟩
    refine ⟨_, rfl, 9, rfl, D, _, rfl, SqL.of hD5, fun c nc => ⟨c, rfl, ⟨_, SqL.of upd_same⟩, ?_⟩⟩
    rw [ey]
    refine for_list (K := K) (a := c) (xs := ys.map V.int) (fun i σ H' => Same (upd H6 c (.lst (ys.map V.int))) H' ∧ ∃ y7, σ = [nR a, nI wd, nI (wd ^ l2), y, nR p, nR r2, nR D, y7, none, none, none, none, none, none, none])
      ⟨Same.refl _, none, rfl⟩ (fun i σ H' _ hh => SqL.of (hh.1 _ _ upd_same)) ?_ ?_
    · rintro i x σ H' hi ⟨sH, y7, rfl⟩
      obtain ⟨il, rfl, mx⟩ := int_at hi
      dsimp only [gName]
      exact ⟨_, rfl, _, rfl, p, wd, l2, xs', F3, _, rfl, (v5.grow ((same_upd nc).trans sH)).lad, by omega, mz _ (my _ mx), fun H8 s8 => ⟨true, rfl, iteF ⟨sH.trans s8, _, rfl⟩⟩⟩
    rintro σ H7 ⟨s7, y7, rfl⟩
    have v7 := v5.grow ((same_upd nc).trans s7)
    have hA7 := v7.sub.seq (s5.seq hS)
    have hR7 := v7.sub _ _ hR5
    clear hD5 hD4 hD sH nc s7
    -- no places
    refine ⟨_, rfl, _, rfl, r2, _, rfl, .inl (SqL.of hR7), p, wd, l2, xs', F3, _, rfl, v7.lad, by omega, .inr (by rw [List.length_map]; omega), fun H8 s8 => ⟨true, rfl, iteF ?_⟩⟩
    refine ⟨_, rfl, 1, rfl, _, rfl, a, ns, 2, rfl, s8.seq hA7, _, _, rfl, rfl, ⟨by decide, by decide, by decide⟩, _, _, rfl, rfl, (by show (0 : Int) < 10 ^ Int.toNat 15; decide), _, _, rfl, rfl, p, wd, l2, xs', F3, _, rfl, (v7.grow s8).lad, by omega, .inl (by have := Int.emod_nonneg (cellOf ns 2) (show (10 : Int) ^ Int.toNat 15 ≠ 0 by decide); omega), fun H9 s9 => ⟨true, rfl, iteF ?_⟩⟩
    have v9 := (v7.grow s8).grow s9
    clear hR7 hA7 v7 v5
    -- what is held
    obtain ⟨dx9, fs9, hp9, _, _, _, _, hm9⟩ := R.ins v9.lad
    have est : stretchL xs' 0 (wd ^ l2) = xs' := List.filter_eq_self.mpr fun x hx => by rw [decide_eq_true (ok.lo x hx), decide_eq_true (ok.hi x hx)]; rfl
    refine ⟨_, rfl, p, dx9, fs9, rfl, hp9, hm9 _ (by decide +kernel), _, rfl, p, wd, l2, xs', F3, 0, wd ^ l2, rfl, v9.lad, by omega, fun z => absurd z (by omega), fun _ _ _ _ HA sa s10 nsa hsa => ⟨(by show 1 ≤ sizeLine; decide), fun b nb => ?_⟩⟩
    rw [est] at hsa
    have v10 := v9.keep s10 nsa hsa
    have nsaG := v9.sub.free nsa
    have s10G := s5.trans (same_upd (o := .lst (xs'.map V.int)) nsaG)
    have hR10 := (same_upd (o := .lst (xs'.map V.int)) nsaG) _ _ hR5
    have hs10 : (upd G5 sa (.lst (xs'.map V.int))) sa = some (.lst (xs'.map V.int)) := upd_same
    have v11 := v10.new (o := .lst [.ref sa]) nb
    have nbG := v10.sub.free nb
    have nb1 := Same.free s10G nbG
    have s11G := s10G.trans (same_upd (o := .lst [.ref sa]) nbG)
    have hR11 := (same_upd (o := .lst [.ref sa]) nbG) _ _ hR10
    have hs11 := (same_upd (o := .lst [.ref sa]) nbG) _ _ hs10
    have hb11 : (upd (upd G5 sa (.lst (xs'.map V.int))) b (.lst [.ref sa])) b = some (.lst [.ref sa]) := upd_same
    revert v11 s11G hR11 hs11 hb11
    generalize upd (upd G5 sa (.lst (xs'.map V.int))) b (.lst [.ref sa]) = G11
    generalize upd HA b (.lst [.ref sa]) = H11
    intro v11 s11G hR11 hs11 hb11
    clear hs10 hR10 s10G v10 nsaG s10 hsa v9 s9 s8
    dsimp only [gName]
    have nil_ne : ∀ {H' : Hp}, H' r2 = some (.lst (xs'.map V.int)) → Evl.EvT (tTest (tOp (rNeD K) (tVar 5) (tLst tNil))) [nR a, nI wd, nI (wd ^ l2), y, nR p, nR r2, nR D, y7, nR b, none, none, none, none, none, none] H' (!decide (xs' = [])) := fun hr => Evl.et_test (Evl.ev_opL (Evl.ev_var rfl) (Evl.el_lst Evl.ea_nil (by decide)) fun p H3 hp e3 => rv_neI (ms := []) (Evl.ex_l e3 (SqL.of hr)) (SqL.of hp))
    refine ⟨fun σ H' => ∃ G' us tl, View R G' H' p wd l2 xs' F3 ∧ Same H1 G' ∧ G' r2 = some (.lst (xs'.map V.int)) ∧ G' b = some (.lst (.ref sa :: us)) ∧ G' sa = some (.lst (xs'.map V.int)) ∧ DhAll G' us tl ∧ (tl = [] ∨ ∃ ts : List (Nat × Int), tl = [.list (ts.map stD)]) ∧ σ = [nR a, nI wd, nI (wd ^ l2), y, nR p, nR r2, nR D, y7, nR b, none, none, none, none, none, none], ?_, ?_⟩
    · dsimp only [gName]
      refine Evl.s_when (b := !decide (xs' = [])) (nil_ne (v11.sub _ _ hR11)) (fun hb H12 s12 => ?_) (fun hb H12 s12 => ⟨G11, [], [], v11.grow s12, s11G, hR11, hb11, hs11, .nil, .inl rfl, rfl⟩)
      have hne : xs' ≠ [] := by
        rw [Bool.not_eq_true', decide_eq_false_iff_not] at hb
        exact hb
      have lp : 0 < xs'.length := List.length_pos_iff.mpr hne
      have v12 := v11.grow s12
      obtain ⟨dx, fs, hp, _, _, _, _, hm⟩ := R.ins v12.lad
      have lv : (xs'.map V.int).length = xs'.length := List.length_map ..
      have c1 := Int.emod_nonneg (cellOf ns 3) (show (xs'.length : Int) ≠ 0 by omega)
      have c2 := Int.emod_lt_of_pos (cellOf ns 3) (show (0 : Int) < (xs'.length : Int) by omega)
      refine ⟨_, rfl, .inl ⟨rfl, _, SqL.of (v12.sub _ _ hb11)⟩, _, rfl, p, dx, fs, rfl, hp, hm _ (by decide +kernel), _, rfl, a, ns, 3, rfl, v12.sub.seq (s11G.seq hS), _, rfl, r2, _, rfl, .inl (SqL.of (v12.sub _ _ hR11)), _, _, rfl, rfl, (by show (0 : Int) < ((xs'.map V.int).length : Int); omega), p, wd, l2, xs', F3, G11, _, rfl, v12, by omega, fun z => absurd z (by rw [lv]; omega), fun j ej jl H13 G13 rr ws v13 s13 _ _ nrr hr13 d13 => ?_⟩
      refine ⟨b, [.ref sa], _, rfl, rfl, v13.sub _ _ (s13 _ _ hb11), (by show 1 < sizeLine; decide), ?_⟩
      have hb13 := s13 _ _ hb11
      have rb : rr ≠ b := fun z => by
        rw [z, hb11] at nrr
        cases nrr
      have r2b : r2 ≠ b := fun z => by
        rw [z, hb11] at hR11
        have z1 := HO.lst.inj (Option.some.inj hR11)
        cases xs' with
        | nil => cases z1
        | cons x r => cases z1
      have sab : sa ≠ b := fun z => by
        rw [z, hb11] at hs11
        have z1 := HO.lst.inj (Option.some.inj hs11)
        cases xs' with
        | nil => cases z1
        | cons x r => cases z1
      have v14 := v13.mut (o := .lst ([.ref sa] ++ [.ref rr])) hb13
      refine ⟨_, [.ref rr], [.list ((trailR wd l2 xs' (xs'.getD j 0)).map stD)], v14, same_mut (s11G.trans s13) nb1, by rw [upd_ne r2b]; exact s13 _ _ hR11, upd_same, by rw [upd_ne sab]; exact s13 _ _ hs11, .cons (.lst (by rw [upd_ne rb]; exact hr13) ?_) .nil, .inr ⟨_, rfl⟩, rfl⟩
      refine dh_states (fun c xs e => ?_) d13
      have cb : c ≠ b := fun z => by
        rw [z, hb13] at e
        cases e
      rw [upd_ne cb]
      exact e
    rintro σ H12 ⟨G12, us, tl, v12, s12, hR12, hb12, hs12, dl, htl, rfl⟩
    -- what is kept
    have dall : DhAll G12 (.ref sa :: us) (dI xs' :: tl) := .cons (.lst hs12 (dhAll_ints G12 xs')) dl
    have isl : ∀ d ∈ dI xs' :: tl, ∃ es, d = .list es := fun d hd => by
      rcases List.mem_cons.mp hd with z | z
      · exact ⟨_, z⟩
      · rcases htl with e | ⟨ts, e⟩
        · rw [e] at z
          cases z
        · rw [e] at z
          exact ⟨_, List.mem_singleton.mp z⟩
    have shp : SeqAt.shaped (.list (dI xs' :: tl)) = true := shaped_list 2 (fun d hd => by
      have d1 : (dI xs').canLay0 = true ∧ (dI xs').depth ≤ 2 := ⟨canLay_ints xs', by
        show PyData.depthAll (xs'.map PyData.int) + 1 ≤ 2
        rw [depth_ints]
        decide⟩
      rcases List.mem_cons.mp hd with z | z
      · rw [z]
        exact d1
      · rcases htl with e | ⟨ts, e⟩
        · rw [e] at z
          cases z
        · rw [e] at z
          rw [List.mem_singleton.mp z]
          have hst : ∀ d ∈ ts.map stD, d.canLay0 = true ∧ d.depth ≤ 1 := fun d hd => by
            obtain ⟨s, _, rfl⟩ := List.mem_map.mp hd
            exact ⟨rfl, Nat.le_refl _⟩
          exact ⟨canLayAll_of fun d hd => (hst d hd).1, Nat.succ_le_succ (depthAll_le fun d hd => (hst d hd).2)⟩) (by decide)
    have few : (V.ref sa :: us).length ≤ 10 := by
      rw [dall.len]
      rcases htl with e | ⟨ts, e⟩
      · rw [e]
        show 1 ≤ 10
        decide
      · rw [e]
        show 2 ≤ 10
        decide
    revert dall isl shp few
    generalize hds : dI xs' :: tl = ds
    generalize hvs : V.ref sa :: us = vs
    intro dall isl shp few
    rw [hvs] at hb12
    refine ⟨_, rfl, b, rfl, ⟨vs, SqL.of (v12.sub _ _ hb12)⟩, fun E nE => ?_⟩
    refine lc_list (K := K) (a := b) (xs := vs) (fun i H' => ∃ G1 ws, Made G12 H12 G1 H' E F3 ws (ds.take i) ∧ ws.length = i) ⟨G12, [], ⟨Evl.Ex.refl _, v12.sub.trans (same_upd nE), same_upd nE, v12.out, fun c fc => R.there v12.lad c fc, Same.free v12.sub nE, nE, upd_same, .nil⟩, rfl⟩ (fun i H' _ hh => ?_) (fun i x H' hi hh => ?_) (fun H13 hh => ?_)
    · obtain ⟨G1, ws, m, _⟩ := hh
      exact SqL.of (m.hc _ _ (v12.sub _ _ hb12))
    · obtain ⟨G1, ws, m, wl⟩ := hh
      obtain ⟨d0, hd0, dx0⟩ := dall.get hi
      obtain ⟨es, rfl⟩ := isl d0 (List.mem_of_getElem? hd0)
      have il := (List.getElem?_eq_some_iff.mp hi).1
      cases dx0 with
      | @lst _ zs0 _ ec hc =>
        refine ⟨rfl, ?_⟩
        dsimp only [tYes]
        rw [if_pos rfl]
        refine ⟨_, rfl, _, _, rfl, .inl (SqL.of (m.sub _ _ (m.g1 _ _ ec))), fun l nl => ⟨ws, by rw [upd_ne (ne_of_none m.eD nl)]; exact m.eD, small1000 (by omega), upd G1 l (.lst zs0), ws ++ [.ref l], ?_, by rw [List.length_append, wl]; rfl⟩⟩
        rw [List.take_succ, hd0]
        have gl : G1 l = none := Same.free m.sub nl
        exact m.add nl (.lst upd_same ((hc.same m.g1).same (same_upd gl)))
    obtain ⟨G1, ws, m, wl⟩ := hh
    rw [dall.len, List.take_length] at m
    have v13 := m.view (R.same v12.lad m.hc)
    have gn : Same G1 (upd G1 E (.lst ws)) := same_upd m.gD
    have s13 := (s12.trans m.g1).trans gn
    have hR13 := gn _ _ (m.g1 _ _ hR12)
    have hb13 := gn _ _ (m.g1 _ _ hb12)
    have hs13 := gn _ _ (m.g1 _ _ hs12)
    have dh13 : Dh (upd G1 E (.lst ws)) (.ref b) (.list ds) := .lst hb13 ((dall.same m.g1).same gn)
    have dk13 : Dh (upd G1 E (.lst ws)) (.ref E) (.list ds) := .lst upd_same (m.all.same gn)
    revert v13 s13 hR13 hb13 hs13 dh13 dk13
    generalize upd G1 E (.lst ws) = G13
    intro v13 s13 hR13 hb13 hs13 dh13 dk13
    clear m gn v12 dall
    dsimp only [gName]
    have lv : (xs'.map V.int).length = xs'.length := List.length_map ..
    -- the way
    have nil_ne2 : ∀ {H' : Hp} {y10 y11 : Option V}, H' r2 = some (.lst (xs'.map V.int)) → Evl.EvT (tTest (tOp (rNeD K) (tVar 5) (tLst tNil))) [nR a, nI wd, nI (wd ^ l2), y, nR p, nR r2, nR D, y7, nR b, none, nR E, none, none, none, none] H' (!decide (xs' = [])) := fun hr => Evl.et_test (Evl.ev_opL (Evl.ev_var rfl) (Evl.el_lst Evl.ea_nil (by decide)) fun p H3 hp e3 => rv_neI (ms := []) (Evl.ex_l e3 (SqL.of hr)) (SqL.of hp))
    refine Evl.q_when (b := false) (Evl.et_is (Evl.et_and (b := false) (nil_ne2 (y10 := none) (y11 := none) (v13.sub _ _ hR13)) fun hb => Evl.et_is (Evl.et_not (Evl.et_B (b := true) (Evl.ev_call (vs := [.ref p, .ref r2, .int (cellOf ns 2 % ((xs'.map V.int).length : Int))]) (Evl.ea_cons (Evl.ev_var rfl) (Evl.ea_cons (Evl.ev_var rfl) (Evl.ea_cons (Evl.ev_op (Evl.ev_call (vs := [.ref a, .int 2]) (Evl.ea_cons (Evl.ev_var rfl) (Evl.ea_cons Evl.ev_c Evl.ea_nil)) fun H8 e8 Q8 q8 E8 => ⟨a, ns, 2, rfl, Evl.ex_l e8 (v13.sub.seq (s13.seq hS)), q8 _ (Evl.Ex.refl _)⟩) (Evl.ev_len (Evl.ev_var rfl) (SqL.of (v13.sub _ _ hR13))) (Evl.rv_I ?_)) Evl.ea_nil))) fun H8 e8 Q8 q8 E8 => ?_))) rfl) (by cases (!decide (xs' = [])) <;> rfl)) (fun hb => nomatch hb) (fun _ H14 s14 => ?_)
    · have hne : xs' ≠ [] := by
        rw [Bool.not_eq_true', decide_eq_false_iff_not] at hb
        exact hb
      have lp : 0 < xs'.length := List.length_pos_iff.mpr hne
      show (0 : Int) < ((xs'.map V.int).length : Int)
      omega
    · have hne : xs' ≠ [] := by
        rw [Bool.not_eq_true', decide_eq_false_iff_not] at hb
        exact hb
      have lp : 0 < xs'.length := List.length_pos_iff.mpr hne
      have c1 := Int.emod_nonneg (cellOf ns 2) (show (xs'.length : Int) ≠ 0 by omega)
      have c2 := Int.emod_lt_of_pos (cellOf ns 2) (show (0 : Int) < (xs'.length : Int) by omega)
      refine ⟨p, r2, wd, l2, xs', F3, (cellOf ns 2 % (xs'.length : Int)).toNat, ?_, R.same v13.lad e8, SqL.of (e8 _ _ (v13.sub _ _ hR13)), by omega, by omega, fun H9 s9 => q8 H9 s9⟩
      rw [lv, Int.toNat_of_nonneg c1]
      rfl
    have v14 := v13.grow s14
    have hR14 := v14.sub _ _ hR13
    -- the numbers at all places
    obtain ⟨dx, fs, hp, _, _, _, _, hm⟩ := R.ins v14.lad
    refine Evl.q_when (b := false) (Evl.et_is (Evl.et_test (Evl.ev_opL1 (xs := xs'.map V.int) (y := .ref r2) ?_ (fun H8 e8 => Evl.ev_var rfl) fun q H8 hq e8 => rv_neI (ns := xs') (ms := xs') (SqL.of hq) (SqL.of (e8 _ _ hR14)))) (by simp)) (fun hb => nomatch hb) (fun _ H15 s15 => ?_)
    · have ex : xs'.map V.int = Evl.given ((xs'.map V.int).length : Int).toNat (fun _ => true) (fun i => V.int (xs'.getD i 0)) := by
        unfold Evl.given
        rw [Int.toNat_natCast, lv, List.filter_eq_self.mpr fun _ _ => rfl]
        have := congrArg (List.map V.int) (range_getD xs')
        rw [List.map_map] at this
        exact this.symm
      rw [ex]
      refine Evl.el_lcR1 (fun _ => true) _ (Evl.ea_cons (Evl.ev_len (Evl.ev_var rfl) (SqL.of hR14)) Evl.ea_nil) ⟨by omega, by omega⟩ (fun _ => rfl) (fun i H3 e3 hi => et_yes) (fun i H3 e3 hi _ => ?_)
      intro H8 e8 Q8 q8
      exact ⟨_, rfl, p, dx, fs, rfl, e8 _ _ (e3 _ _ hp), hm _ (by decide +kernel), _, rfl, p, wd, l2, xs', F3, (i : Int), rfl, R.same (R.same v14.lad e3) e8, by omega, fun z => absurd z (by omega), fun j ej jl H9 s9 => by
        have : j = i := by omega
        subst this
        exact q8 H9 s9⟩
    have v15 := v14.grow s15
    have hA15 := v15.sub.seq (s13.seq hS)
    clear nil_ne nil_ne2 hp hm v14 hR14
    have hn1 := lawNum_in (c := cellOf ns 2) (lim := wd ^ l2 + 1) (by omega)
    have hn2 := lawNum_in (c := cellOf ns 3) (lim := wd ^ l2 + 1) (by omega)
    have hf0 := Int.emod_nonneg (cellOf ns 3) (show (10 : Int) ^ Int.toNat 15 ≠ 0 by decide)
    refine ⟨_, rfl, a, ns, 2, rfl, hA15, _, rfl, _, _, rfl, rfl, _, _, rfl, by omega, ?_⟩
    dsimp only [gName]
    refine ⟨_, rfl, a, ns, 3, rfl, hA15, _, rfl, _, _, rfl, rfl, _, _, rfl, by omega, ?_⟩
    dsimp only [gName]
    refine ⟨_, rfl, a, ns, 3, rfl, hA15, _, _, rfl, rfl, ⟨by decide, by decide, by decide⟩, _, _, rfl, rfl, (by show (0 : Int) < 10 ^ Int.toNat 15; decide), ?_⟩
    dsimp only [gName]
    revert hn1 hn2 hf0
    generalize lawNum (cellOf ns 2) (wd ^ l2 + 1) = one
    generalize lawNum (cellOf ns 3) (wd ^ l2 + 1) = two
    generalize cellOf ns 3 % (10 : Int) ^ Int.toNat 15 = far
    intro hn1 hn2 hf0
    -- refused
    refine ⟨_, rfl, _, _, rfl, rfl, _, rfl, _, _, rfl, rfl, _, rfl, (by show 2 ≤ sizeLine; decide), fun t1 n1 => ?_⟩
    refine ⟨_, rfl, _, rfl, _, _, rfl, rfl, _, rfl, _, _, rfl, rfl, (by show 2 ≤ sizeLine; decide), fun t2 n2 => ?_⟩
    refine ⟨1, rfl, _, rfl, _, _, rfl, rfl, _, rfl, (by show 2 ≤ sizeLine; decide), fun t3 n3 => ?_⟩
    refine ⟨_, rfl, 1, rfl, _, rfl, _, _, rfl, rfl, (by show 2 ≤ sizeLine; decide), fun t4 n4 => ?_⟩
    refine ⟨(by show 4 ≤ sizeLine; decide), fun c nc => ⟨c, rfl, ⟨_, SqL.of upd_same⟩, ?_⟩⟩
    have u1 := same_upd (o := .tup [.int (wd ^ l2 + 1 + far), .int one]) n1
    have u2 := same_upd (o := .tup [.int one, .int (wd ^ l2 + 1 + far)]) n2
    have u3 := same_upd (o := .tup [.int (-1 - far), .int one]) n3
    have u4 := same_upd (o := .tup [.int one, .int (-1 - far)]) n4
    have uc := same_upd (o := .lst [.ref t1, .ref t2, .ref t3, .ref t4]) nc
    have v16 := ((((v15.grow u1).grow u2).grow u3).grow u4).grow uc
    have hc16 : (upd (upd (upd (upd (upd H15 t1 (.tup [.int (wd ^ l2 + 1 + far), .int one])) t2 (.tup [.int one, .int (wd ^ l2 + 1 + far)])) t3 (.tup [.int (-1 - far), .int one])) t4 (.tup [.int one, .int (-1 - far)])) c (.lst [.ref t1, .ref t2, .ref t3, .ref t4])) c = some (.lst [.ref t1, .ref t2, .ref t3, .ref t4]) := upd_same
    have hall : ∀ x ∈ [V.ref t1, V.ref t2, V.ref t3, V.ref t4], ∃ (t : Addr) (lo hi : Int), x = .ref t ∧ (upd (upd (upd (upd (upd H15 t1 (.tup [.int (wd ^ l2 + 1 + far), .int one])) t2 (.tup [.int one, .int (wd ^ l2 + 1 + far)])) t3 (.tup [.int (-1 - far), .int one])) t4 (.tup [.int one, .int (-1 - far)])) c (.lst [.ref t1, .ref t2, .ref t3, .ref t4])) t = some (.tup [.int lo, .int hi]) ∧ (lo < 0 ∨ wd ^ l2 < lo ∨ hi < 0 ∨ wd ^ l2 < hi) := fun x hx => by
      rcases List.mem_cons.mp hx with z | hx
      · exact ⟨t1, _, _, z, uc _ _ (u4 _ _ (u3 _ _ (u2 _ _ upd_same))), .inr (.inl (by omega))⟩
      rcases List.mem_cons.mp hx with z | hx
      · exact ⟨t2, _, _, z, uc _ _ (u4 _ _ (u3 _ _ upd_same)), .inr (.inr (.inr (by omega)))⟩
      rcases List.mem_cons.mp hx with z | hx
      · exact ⟨t3, _, _, z, uc _ _ (u4 _ _ upd_same), .inl (by omega)⟩
      · exact ⟨t4, _, _, List.mem_singleton.mp hx, uc _ _ upd_same, .inr (.inr (.inl (by omega)))⟩
    clear u1 u2 u3 u4 uc
    revert v16 hc16 hall
    generalize (upd (upd (upd (upd (upd H15 t1 (.tup [.int (wd ^ l2 + 1 + far), .int one])) t2 (.tup [.int one, .int (wd ^ l2 + 1 + far)])) t3 (.tup [.int (-1 - far), .int one])) t4 (.tup [.int one, .int (-1 - far)])) c (.lst [.ref t1, .ref t2, .ref t3, .ref t4])) = H16
    generalize [V.ref t1, V.ref t2, V.ref t3, V.ref t4] = ps
    intro v16 hc16 hall
    refine for_list (K := K) (a := c) (xs := ps) (fun i σ H' => Same H16 H' ∧ ∃ y13, σ = [nR a, nI wd, nI (wd ^ l2), y, nR p, nR r2, nR D, y7, nR b, nI one, nR E, nI two, nI far, y13, none])
      ⟨Same.refl _, none, rfl⟩ (fun i σ H' _ hh => SqL.of (hh.1 _ _ hc16)) ?_ ?_
    · rintro i x σ H' hi ⟨sH, y13, rfl⟩
      obtain ⟨t, lo, hi2, rfl, ht, bad⟩ := hall x (List.mem_of_getElem? hi)
      have htH := SqT.of (K := K) (sH _ _ ht)
      dsimp only [gName]
      exact ⟨_, rfl, _, rfl, t, _, 0, _, rfl, rfl, htH, atI_nat (j := 0) rfl, _, rfl, t, _, 1, _, rfl, rfl, htH, atI_nat (j := 1) rfl, p, wd, l2, xs', F3, lo, hi2, rfl, (v16.grow sH).lad, by omega, bad, fun H8 s8 => ⟨true, rfl, iteF ⟨sH.trans s8, _, rfl⟩⟩⟩
    rintro σ H17 ⟨s17, y13, rfl⟩
    have v17 := v16.grow s17
    clear hall hc16 s17 v16 v15 n1 n2 n3 n4 nc hA15
    -- the stretches
    refine ⟨_, rfl, _, rfl, (by show 2 ≤ sizeLine; decide), fun t1 n1 => ?_⟩
    refine ⟨_, rfl, _, rfl, (by show 2 ≤ sizeLine; decide), fun t2 n2 => ?_⟩
    refine ⟨_, rfl, (by show 2 ≤ sizeLine; decide), fun t3 n3 => ?_⟩
    refine ⟨(by show 3 ≤ sizeLine; decide), fun c nc => ⟨c, rfl, ⟨_, SqL.of upd_same⟩, ?_⟩⟩
    have u1 := same_upd (o := .tup [.int one, .int two]) n1
    have u2 := same_upd (o := .tup [.int two, .int one]) n2
    have u3 := same_upd (o := .tup [.int 0, .int (wd ^ l2)]) n3
    have uc := same_upd (o := .lst [.ref t1, .ref t2, .ref t3]) nc
    have v16 := (((v17.grow u1).grow u2).grow u3).grow uc
    have hc16 : (upd (upd (upd (upd H17 t1 (.tup [.int one, .int two])) t2 (.tup [.int two, .int one])) t3 (.tup [.int 0, .int (wd ^ l2)])) c (.lst [.ref t1, .ref t2, .ref t3])) c = some (.lst [.ref t1, .ref t2, .ref t3]) := upd_same
    have hall : ∀ x ∈ [V.ref t1, V.ref t2, V.ref t3], ∃ (t : Addr) (lo hi : Int), x = .ref t ∧ (upd (upd (upd (upd H17 t1 (.tup [.int one, .int two])) t2 (.tup [.int two, .int one])) t3 (.tup [.int 0, .int (wd ^ l2)])) c (.lst [.ref t1, .ref t2, .ref t3])) t = some (.tup [.int lo, .int hi]) ∧ 0 ≤ lo ∧ lo ≤ wd ^ l2 ∧ 0 ≤ hi ∧ hi ≤ wd ^ l2 := fun x hx => by
      rcases List.mem_cons.mp hx with z | hx
      · exact ⟨t1, _, _, z, uc _ _ (u3 _ _ (u2 _ _ upd_same)), by omega, by omega, by omega, by omega⟩
      rcases List.mem_cons.mp hx with z | hx
      · exact ⟨t2, _, _, z, uc _ _ (u3 _ _ upd_same), by omega, by omega, by omega, by omega⟩
      · exact ⟨t3, _, _, List.mem_singleton.mp hx, uc _ _ upd_same, by omega, by omega, by omega, by omega⟩
    clear u1 u2 u3 uc
    revert v16 hc16 hall
    generalize (upd (upd (upd (upd H17 t1 (.tup [.int one, .int two])) t2 (.tup [.int two, .int one])) t3 (.tup [.int 0, .int (wd ^ l2)])) c (.lst [.ref t1, .ref t2, .ref t3])) = H16
    generalize [V.ref t1, V.ref t2, V.ref t3] = ps
    intro v16 hc16 hall
    refine for_list (K := K) (a := c) (xs := ps) (fun i σ H' => Same H16 H' ∧ ∃ y13, σ = [nR a, nI wd, nI (wd ^ l2), y, nR p, nR r2, nR D, y7, nR b, nI one, nR E, nI two, nI far, y13, none])
      ⟨Same.refl _, _, rfl⟩ (fun i σ H' _ hh => SqL.of (hh.1 _ _ hc16)) ?_ ?_
    · rintro i x σ H' hi ⟨sH, y13, rfl⟩
      obtain ⟨t, lo, hi2, rfl, ht, k1, k2, k3, k4⟩ := hall x (List.mem_of_getElem? hi)
      have htH := SqT.of (K := K) (sH _ _ ht)
      dsimp only [gName]
      exact ⟨_, rfl, _, rfl, _, rfl, t, _, 0, _, rfl, rfl, htH, atI_nat (j := 0) rfl, _, rfl, t, _, 1, _, rfl, rfl, htH, atI_nat (j := 1) rfl, p, r2, wd, l2, xs', F3, lo, hi2, rfl, (v16.grow sH).lad, SqL.of ((v16.grow sH).sub _ _ hR13), by omega, k1, k2, k3, k4, fun H8 s8 => ⟨true, rfl, iteF ⟨sH.trans s8, _, rfl⟩⟩⟩
    rintro σ H18 ⟨s18, y14, rfl⟩
    have v18 := v16.grow s18
    have dh18 := dh13.same v18.sub
    have dk18 := dk13.same v18.sub
    refine ⟨_, rfl, _, rfl, eqD_same dh18.dp dk18.dp shp ⟨true, rfl, ?_⟩⟩
    have v0 : vs[0]? = some (.ref sa) := by rw [← hvs]; rfl
    exact ⟨_, rfl, b, _, 0, _, rfl, rfl, SqL.of (v18.sub _ _ hb13), atI_nat (j := 0) v0, _, rfl, eqD_ints (SqL.of (v18.sub _ _ hs13)) (SqL.of (v18.sub _ _ hR13)) rfl (q _)⟩
def sp_ladder_has (T : Txt K mg) (R : Rep K T.c_Ladder) : Sp := fun vs H Q E => ∃ (p : Addr) (w : Int) (h : Nat) (xs : List Int) (F : Addr → Prop) (n : Int), vs = [.ref p, .int n] ∧ R.Lad H p w h xs F ∧ xs.length ≤ 150 ∧
  ((n < 0 ∨ w ^ h ≤ n) → ∀ H', Same H H' → E (.ref T.c_OutOfRange) none H') ∧ (0 ≤ n → n < w ^ h → ∀ H', Same H H' → Q (.bl (decide (n ∈ xs))) H')
def sp_l_near (T : Txt K mg) (_ : Rep K T.c_Ladder) : Sp := fun vs H Q _ => ∃ (o : Option Int) (a : Addr) (zs : List Int), vs = [oV o, .ref a] ∧ SqL K H a (zs.map V.int) ∧ zs.head? = o ∧ ∀ H', Same H H' → Q (.bl true) H'
/-! ### the program's ladder -/
def flds (w : Int) (h n : Nat) (r : Addr) : List (Str × V) := [("width", .int w), ("high", .int (h : Int)), ("limit", .int (w ^ h)), ("many", .int (n : Int)), ("_row", .ref r)]
structure LadP (C : Addr) (H : Hp) (p : Addr) (w : Int) (h : Nat) (xs : List Int) (F : Addr → Prop) : Prop where
  ok : RowOk w h xs
  has : ∃ dx r, H p = some (.ins C dx (flds w h xs.length r)) ∧ H r = some (.lst (xs.map V.int)) ∧ F p ∧ F r ∧ ∀ b, F b → b = p ∨ b = r
theorem flds_free (w : Int) (h n : Nat) (r : Addr) : ∀ m ∈ methods, (flds w h n r).lookup m = none := fun m hm => by
  unfold flds
  have e : ∀ m ∈ methods, m ≠ "width" ∧ m ≠ "high" ∧ m ≠ "limit" ∧ m ≠ "many" ∧ m ≠ "_row" := by decide +kernel
  obtain ⟨e1, e2, e3, e4, e5⟩ := e m hm
  rw [List.lookup_cons, beq_false_of_ne e1, List.lookup_cons, beq_false_of_ne e2, List.lookup_cons, beq_false_of_ne e3, List.lookup_cons, beq_false_of_ne e4, List.lookup_cons, beq_false_of_ne e5]
  rfl
def theRep (T : Txt K mg) : Rep K T.c_Ladder where
  Lad := LadP T.c_Ladder
  ins := fun l => by
    obtain ⟨dx, r, h1, _⟩ := l.has
    exact ⟨dx, _, h1, by rfl, by rfl, by rfl, by rfl, flds_free _ _ _ _⟩
  ok := fun l => l.ok
  stay := fun l s => by
    obtain ⟨dx, r, h1, h2, f1, f2, f3⟩ := l.has
    exact ⟨l.ok, dx, r, s _ _ f1 h1, s _ _ f2 h2, f1, f2, f3⟩
  there := fun l b fb => by
    obtain ⟨dx, r, h1, h2, f1, f2, f3⟩ := l.has
    rcases f3 b fb with e | e
    · exact ⟨_, e ▸ h1⟩
    · exact ⟨_, e ▸ h2⟩
theorem flat_one (n : Nat) (v : V) : (List.replicate n [v]).flatten = List.replicate n v := by
  rw [List.flatten_replicate_singleton]
/-- the ladder with another row -/
theorem LadP.set {C : Addr} {H H' : Hp} {p : Addr} {w : Int} {h : Nat} {xs ys : List Int} {F : Addr → Prop} {dx r : Addr} (o : RowOk w h ys) (hp : H' p = some (.ins C dx (flds w h ys.length r))) (hr : H' r = some (.lst (ys.map V.int))) (f1 : F p) (f2 : F r) (f3 : ∀ b, F b → b = p ∨ b = r) : LadP C H' p w h ys F :=
  ⟨o, dx, r, hp, hr, f1, f2, f3⟩
theorem ok_power (T : Txt K mg) : FnOk P w K mg base CX0 1 T.f_power T.fd_power ["width", "level"] (sp_power K) := by
  refine T.F_power.ok sc_power (fun vs H Q E h => ?_) (fun cdv A outer s H vs Q E hr h => ?_)
  · obtain ⟨wd, l, rfl, _⟩ := h
    rfl
  · obtain ⟨wd, l, rfl, h1, h2, h3, q⟩ := h
    refine ⟨_, (pss_cons (ps_set (i := 2) sc_power.nd rfl (.inl rfl) pe_int)
      (pss_cons (ps_for PassesOwn.never rfl (pi_range1 (by rfl) T.b_range (pa_cons (pv 1) pa_nil)) (pg_name (i := 3) sc_power.nd rfl (.inl rfl)) (pss_one (ps_set (i := 2) sc_power.nd rfl (.inl rfl) (pe_op op_mul (pv 2) (pv 0)))))
      (pss_one (ps_ret (pv 2))))), ?_⟩
    refine ⟨_, rfl, (l : Int), rfl, by omega, by omega, for_range (lo := 0) (n := l) (fun i σ H' => H' = H ∧ ∃ y, σ = [some (.int wd), some (.int (l : Int)), some (.int (wd ^ i)), y]) ⟨rfl, none, by rw [Int.pow_zero]; rfl⟩ ?_ ?_⟩
    · rintro i σ H' hi ⟨rfl, y, rfl⟩
      refine ⟨_, rfl, _, rfl, _, _, rfl, rfl, .inr ⟨by omega, by omega⟩, rfl, nI (0 + (i : Int)), ?_⟩
      rw [Int.pow_succ]
      rfl
    · rintro σ H' ⟨rfl, y, rfl⟩
      exact ⟨_, rfl, q⟩
theorem ok_block (T : Txt K mg) : FnOk P w K mg base CX0 2 T.f_block T.fd_block ["width", "level", "number"] (sp_block K) := by
  have G_power : FnOk P w K mg base CX0 1 T.f_power T.fd_power ["width", "level"] (sp_power K) := ok_power T
  refine T.F_block.ok sc_block (fun vs H Q E h => ?_) (fun cdv A outer s H vs Q E hr h => ?_)
  · obtain ⟨wd, l, n, rfl, _⟩ := h
    rfl
  · obtain ⟨wd, l, n, rfl, h1, h2, h3, q⟩ := h
    refine ⟨_, (pss_one (ps_ret (pe_op op_fdivW (pv 2) (pe_call G_power hr (by rfl) T.g_power T.F_power.kp T.bd_power .nil pass0 (pa_cons (pv 0) (pa_cons (pv 1) pa_nil)))))), ?_⟩
    exact ⟨_, rfl, _, rfl, _, rfl, wd, l, rfl, h1, h2, h3, _, _, rfl, rfl, div_ok h1 h2 h3 n, q⟩
theorem ok_tall (T : Txt K mg) : FnOk P w K mg base CX0 3 T.f_tall T.fd_tall ["width", "high", "before", "number"] (sp_tall K) := by
  have G_block : FnOk P w K mg base CX0 2 T.f_block T.fd_block ["width", "level", "number"] (sp_block K) := ok_block T
  refine T.F_tall.ok sc_tall (fun vs H Q E h => ?_) (fun cdv A outer s H vs Q E hr h => ?_)
  · obtain ⟨wd, h, b, n, rfl, _⟩ := h
    rfl
  · obtain ⟨wd, h, b, n, rfl, h1, h2, h3, q⟩ := h
    refine ⟨_, (pss_cons (ps_if (pt_cmpR op_isN (pv 2) pe_non (nomark _)) (pss_one (ps_ret (pe_op op_add (pv 1) pe_int))) pss_nil)
      (pss_cons (ps_set (i := 4) sc_tall.nd rfl (.inl rfl) pe_int)
      (pss_cons (ps_for PassesOwn.never rfl (pi_range1 (by rfl) T.b_range (pa_cons (pe_op op_add (pv 1) pe_int) pa_nil)) (pg_name (i := 5) sc_tall.nd rfl (.inl rfl)) (pss_one (ps_if (pt_cmpR op_ne (pe_call G_block hr (by rfl) T.g_block T.F_block.kp T.bd_block .nil pass0 (pa_cons (pv 0) (pa_cons (pv 5) (pa_cons (pv 2) pa_nil)))) (pe_call G_block hr (by rfl) T.g_block T.F_block.kp T.bd_block .nil pass0 (pa_cons (pv 0) (pa_cons (pv 5) (pa_cons (pv 3) pa_nil)))) (nomark _)) (pss_one (ps_set (i := 4) sc_tall.nd rfl (.inl rfl) (pe_op op_add (pv 4) pe_int))) pss_nil)))
      (pss_one (ps_ret (pv 4)))))), ?_⟩
    cases b with
    | none => exact ⟨_, rfl, rfl, _, rfl, ite2 (fun _ => ⟨_, rfl, _, _, rfl, rfl, q⟩) (fun z => (z (decide_eq_true rfl)).elim)⟩
    | some b =>
      refine ⟨_, rfl, rfl, _, rfl, ite2 (fun z => nomatch (of_decide_eq_true z)) (fun _ => ?_)⟩
      refine ⟨_, rfl, _, _, rfl, rfl, (h : Int) + 1, rfl, by omega, by omega, for_range (lo := 0) (n := ((h : Int) + 1).toNat) (fun i σ H' => H' = H ∧ ∃ y, σ = [nI wd, nI (h : Int), nI b, nI n, nI ((List.range i).countP (apartP wd b n) : Nat), y]) ⟨rfl, none, rfl⟩ ?_ ?_⟩
      · rintro i σ H' hi ⟨rfl, y, rfl⟩
        rw [Int.zero_add]
        refine ⟨_, rfl, _, rfl, _, rfl, wd, i, b, rfl, h1, h2, by omega, ?_⟩
        refine ⟨_, rfl, _, rfl, _, rfl, wd, i, n, rfl, h1, h2, by omega, ?_⟩
        refine ⟨rfl, _, rfl, ite2 (fun z => ?_) (fun z => ?_)⟩
        · have e : apartP wd b n i = true := z
          refine ⟨_, rfl, _, _, rfl, rfl, rfl, nI (i : Int), ?_⟩
          rw [countP_succ, if_pos e, Int.natCast_add]
          rfl
        · have e : ¬ apartP wd b n i = true := z
          refine ⟨rfl, nI (i : Int), ?_⟩
          rw [countP_succ, if_neg e, Nat.add_zero]
          rfl
      · rintro σ H' ⟨rfl, y, rfl⟩
        exact ⟨_, rfl, q⟩
theorem ok_ladder_init (T : Txt K mg) : FnOk P w K mg base (L2.CX P w) 2 T.f_ladder_init T.fd_ladder_init ["self", "width", "high"] (sp_ladder_init T (theRep T)) := by
  have G_power : FnOk P w K mg base CX0 1 T.f_power T.fd_power ["width", "level"] (sp_power K) := ok_power T
  refine T.F_ladder_init.okX sc_ladder_init (fun vs H Q E h => ?_) (fun cdv A outer s H vs Q E hr h => ?_)
  · obtain ⟨H0, p, dx, wd, hh, rfl, _⟩ := h
    rfl
  · obtain ⟨H0, p, dx, wd, hh, rfl, eH, np, ndx, ne, bad, good⟩ := h
    refine ⟨_, (pss_cons (ps_if (PW.pt (pw_or (pt_cmpR op_lt (pv 1) pe_int (nomark _)) (pw_or1 (pt_cmpR op_gt (pv 1) pe_int (nomark _))))) (pss_one (ps_raise rfl (takes_of rfl rfl rfl rfl) (pmk_own PySem.F.excBase_ValueError T.xp_BadSize T.x_BadSize T.kp_BadSize (raises_own T.bp_BadSize T.tp_BadSize) (by rfl)))) pss_nil)
      (pss_cons (ps_if (PW.pt (pw_or (pt_cmpR op_lt (pv 2) pe_int (nomark _)) (pw_or1 (pt_cmpR op_gt (pv 2) pe_int (nomark _))))) (pss_one (ps_raise rfl (takes_of rfl rfl rfl rfl) (pmk_own PySem.F.excBase_ValueError T.xp_BadSize T.x_BadSize T.kp_BadSize (raises_own T.bp_BadSize T.tp_BadSize) (by rfl)))) pss_nil)
      (pss_cons (ps_fld (pv 0) (pv 1) rfl)
      (pss_cons (ps_fld (pv 0) (pv 2) rfl)
      (pss_cons (ps_fld (pv 0) (pe_call G_power hr (by rfl) T.g_power T.F_power.kp T.bd_power .nil pass0 (pa_cons (pv 1) (pa_cons (pv 2) pa_nil))) rfl)
      (pss_cons (ps_fld (pv 0) pe_int rfl)
      (pss_one (ps_fld (pv 0) (pe_lst pa_nil) rfl)))))))), ?_⟩
    subst eH
    have nd : ∀ b u, H0 b = some u → b ≠ p ∧ b ≠ dx := fun b u e => ⟨ne_of_none e np, ne_of_none e ndx⟩
    have sm : ∀ o, Same H0 (upd (upd H0 dx (.own p)) p o) := fun o b u e => by
      rw [upd_ne (nd b u e).1, upd_ne (nd b u e).2]
      exact e
    refine ⟨_, rfl, _, _, rfl, rfl, _, rfl, ite2 (fun c => iteT (bad (.inl (of_decide_eq_true c)) _ (sm _))) (fun c1 => ?_)⟩
    refine ⟨_, rfl, _, _, rfl, rfl, _, rfl, ite2 (fun c => bad (.inr (.inl (of_decide_eq_true c))) _ (sm _)) (fun c2 => ?_)⟩
    refine ⟨_, rfl, _, _, rfl, rfl, _, rfl, ite2 (fun c => iteT (bad (.inr (.inr (.inl (of_decide_eq_true c)))) _ (sm _))) (fun c3 => ?_)⟩
    refine ⟨_, rfl, _, _, rfl, rfl, _, rfl, ite2 (fun c => bad (.inr (.inr (.inr (of_decide_eq_true c)))) _ (sm _)) (fun c4 => ?_)⟩
    have d1 : ¬ wd < 2 := fun z => c1 (decide_eq_true z)
    have d2 : ¬ 9 < wd := fun z => c2 (decide_eq_true z)
    have d3 : ¬ hh < 1 := fun z => c3 (decide_eq_true z)
    have d4 : ¬ 12 < hh := fun z => c4 (decide_eq_true z)
    obtain ⟨h, rfl⟩ : ∃ h : Nat, hh = (h : Int) := ⟨hh.toNat, by omega⟩
    refine ⟨_, rfl, _, rfl, p, _, dx, _, rfl, upd_same, T.cl_Ladder, T.n_Ladder_width, (by show 0 < 1000; decide), ?_⟩
    refine ⟨_, rfl, _, rfl, p, _, dx, _, rfl, upd_same, T.cl_Ladder, T.n_Ladder_high, (by show 1 < 1000; decide), ?_⟩
    refine ⟨_, rfl, _, rfl, wd, h, rfl, by omega, by omega, by omega, _, rfl, p, _, dx, _, rfl, upd_same, T.cl_Ladder, T.n_Ladder_limit, (by show 2 < 1000; decide), ?_⟩
    refine ⟨_, rfl, p, _, dx, _, rfl, upd_same, T.cl_Ladder, T.n_Ladder_many, (by show 3 < 1000; decide), ?_⟩
    refine ⟨Nat.zero_le _, fun r nr => ?_⟩
    rw [upd_upd, upd_upd, upd_upd, upd_upd] at *
    have rp : r ≠ p := fun z => by
      rw [z, upd_same] at nr
      cases nr
    refine ⟨_, rfl, p, _, dx, _, rfl, by rw [upd_ne rp.symm, upd_same], T.cl_Ladder, T.n_Ladder__row, (by show 4 < 1000; decide), ?_⟩
    have nr0 : H0 r = none := by
      cases e : H0 r with
      | none => rfl
      | some o =>
        rw [sm _ _ _ e] at nr
        cases nr
    refine good h rfl (by omega) (by omega) (by omega) (by omega) _ (fun b => b = p ∨ b = r) ⟨⟨by omega, by omega, by omega, by omega, .nil, (fun x hx => nomatch hx), (fun x hx => nomatch hx)⟩, dx, r, upd_same, by rw [upd_ne rp, upd_same]; rfl, .inl rfl, .inr rfl, fun b fb => fb⟩ (fun b u e => ?_) (fun b fb => ?_)
    · rw [upd_ne (nd b u e).1, upd_ne (ne_of_none e nr0)]
      exact sm _ b u e
    · rcases fb with rfl | rfl
      · exact np
      · exact nr0
def sp_ladder_check_number (T : Txt K mg) (R : Rep K T.c_Ladder) : Sp := fun vs H Q E => ∃ (p : Addr) (w : Int) (h : Nat) (xs : List Int) (F : Addr → Prop) (n : Int), vs = [.ref p, .int n] ∧ R.Lad H p w h xs F ∧
  ((n < 0 ∨ w ^ h ≤ n) → E (.ref T.c_OutOfRange) none H) ∧ (0 ≤ n → n < w ^ h → Q .non H)
theorem ok_ladder_check_number (T : Txt K mg) : FnOk P w K mg base (L2.CX P w) 1 T.f_ladder_check_number T.fd_ladder_check_number ["self", "number"] (sp_ladder_check_number T (theRep T)) := by
  refine T.F_ladder_check_number.okX sc_ladder_check_number (fun vs H Q E h => ?_) (fun cdv A outer s H vs Q E hr h => ?_)
  · obtain ⟨p, wd, h, xs, F, n, rfl, _⟩ := h
    rfl
  · obtain ⟨p, wd, h, xs, F, n, rfl, hL, bad, good⟩ := h
    refine ⟨_, (pss_one (ps_if (PW.pt (pw_or (pt_cmpR op_lt (pv 1) pe_int (nomark _)) (pw_or1 (pt_cmpR op_ge (pv 1) (pe_fld (pv 0) rfl) (nomark _))))) (pss_one (ps_raise rfl (takes_of rfl rfl rfl rfl) (pmk_own PySem.F.excBase_ValueError T.xp_OutOfRange T.x_OutOfRange T.kp_OutOfRange (raises_own T.bp_OutOfRange T.tp_OutOfRange) (by rfl)))) pss_nil)), ?_⟩
    obtain ⟨dx, r, hp, hr', f1, f2, f3⟩ := hL.has
    refine ⟨_, rfl, _, _, rfl, rfl, _, rfl, ite2 (fun c => iteT (bad (.inl (of_decide_eq_true c)))) (fun c => ?_)⟩
    refine ⟨_, rfl, _, rfl, p, _, dx, _, _, rfl, hp, T.cl_Ladder, T.n_Ladder_limit, rfl, _, _, rfl, rfl, _, rfl, ite2 (fun c2 => bad (.inr (of_decide_eq_true c2))) (fun c2 => good ?_ ?_)⟩
    · have z : ¬ n < 0 := fun q => c (decide_eq_true q)
      omega
    · have z : ¬ wd ^ h ≤ n := fun q => c2 (decide_eq_true q)
      omega
theorem ok_ladder_has (T : Txt K mg) : FnOk P w K mg base (L2.CX P w) 2 T.f_ladder_has T.fd_ladder_has ["self", "number"] (sp_ladder_has T (theRep T)) := by
  have G_ladder_check_number : FnOk P w K mg base (L2.CX P w) 1 T.f_ladder_check_number T.fd_ladder_check_number ["self", "number"] (sp_ladder_check_number T (theRep T)) := ok_ladder_check_number T
  refine T.F_ladder_has.okX sc_ladder_has (fun vs H Q E h => ?_) (fun cdv A outer s H vs Q E hr h => ?_)
  · obtain ⟨p, wd, h, xs, F, n, rfl, _⟩ := h
    rfl
  · obtain ⟨p, wd, h, xs, F, n, rfl, hL, hlen, bad, good⟩ := h
    refine ⟨_, (pss_cons (ps_expr (pe_meth (pv 0) T.cl_Ladder T.m_ladder_check_number G_ladder_check_number hr T.bd_ladder_check_number .nil (passes_call (takes_of rfl rfl rfl rfl) (fun _ _ _ _ h => h)) (pa_cons (pv 1) pa_nil)))
      (pss_one (ps_ret (pe_cmpR op_in_seq (pv 1) (pe_fld (pv 0) rfl) (by rfl))))), ?_⟩
    obtain ⟨dx, r, hp, hr', f1, f2, f3⟩ := hL.has
    refine ⟨_, rfl, p, dx, _, rfl, hp, rfl, _, rfl, p, wd, h, xs, F, n, rfl, hL, fun c => bad c H (Evl.Ex.refl _), fun a b => ?_⟩
    dsimp only
    refine Evl.s_ret (v := .bl (decide (n ∈ xs))) ?_ (fun H2 s2 => good a b H2 s2)
    exact Evl.ev_op (Evl.ev_var rfl) (ev_fld (Evl.ev_var rfl) hp T.cl_Ladder T.n_Ladder__row rfl) (rv_inI (SqL.of hr'))
def sp_ladder_spot (T : Txt K mg) (R : Rep K T.c_Ladder) : Sp := fun vs H Q _ => ∃ (p : Addr) (w : Int) (h : Nat) (xs : List Int) (F : Addr → Prop) (n : Int), vs = [.ref p, .int n] ∧ R.Lad H p w h xs F ∧ xs.length ≤ 151 ∧
  ∀ H', Same H H' → Q (.int (placeN xs n : Int)) H'
theorem ok_ladder_spot (T : Txt K mg) : FnOk P w K mg base CX0 1 T.f_ladder_spot T.fd_ladder_spot ["self", "number"] (sp_ladder_spot T (theRep T)) := by
  refine T.F_ladder_spot.ok sc_ladder_spot (fun vs H Q E h => ?_) (fun cdv A outer s H vs Q E hr h => ?_)
  · obtain ⟨p, wd, h, xs, F, n, rfl, _⟩ := h
    rfl
  · obtain ⟨p, wd, h, xs, F, n, rfl, hL, hlen, q⟩ := h
    refine ⟨_, (pss_one (ps_ret (pe_callB call_len_seq (by rfl) T.b_len PySem.boot_len (pa_cons (pe_lc (own := [("kept", 2)]) (g := gName 2) (by rfl) sc_ladder_spot.nd (pi_list (pe_fld (pv 0) rfl)) (blkOk_by (own := [("kept", 2)]) (N := ["self", "number", "kept"]) (sc := defScope s_ladder_spot) (by decide +kernel)) (fun _ _ _ _ _ => (pg_name (i := 2) sc_ladder_spot.nd rfl (Or.inl rfl))) (fun _ _ _ _ _ => (pts_one (pt_cmpR op_lt (pv 2) (pv 1) (nomark _)))) (fun _ _ _ _ _ => (pv 2))) pa_nil)))), ?_⟩
    obtain ⟨dx, r, hp, hr', f1, f2, f3⟩ := hL.has
    refine ev_use (v := .int (placeN xs n : Int)) ?_ (fun H2 s2 => q H2 s2)
    refine Evl.ev_is (Evl.ev_lenN (el_fil (fun x => decide (x < n)) (ev_fld (Evl.ev_var rfl) hp T.cl_Ladder T.n_Ladder__row rfl) (SqL.of hr') (by omega) (fun _ => rfl) (fun x _ H1 _ => Evl.et_test (Evl.ev_op (Evl.ev_var rfl) (Evl.ev_var rfl) Evl.rv_I0)) (fun x _ H1 _ _ => Evl.ev_var rfl))) ?_
    rw [List.length_map]
    rfl
def sp_ladder_before (T : Txt K mg) (R : Rep K T.c_Ladder) : Sp := fun vs H Q _ => ∃ (p : Addr) (w : Int) (h : Nat) (xs : List Int) (F : Addr → Prop) (k : Nat), vs = [.ref p, .int (k : Int)] ∧ R.Lad H p w h xs F ∧ k ≤ xs.length ∧ Q (oV (if k = 0 then none else xs[k - 1]?)) H
theorem ok_ladder_before (T : Txt K mg) : FnOk P w K mg base CX0 1 T.f_ladder_before T.fd_ladder_before ["self", "spot"] (sp_ladder_before T (theRep T)) := by
  refine T.F_ladder_before.ok sc_ladder_before (fun vs H Q E h => ?_) (fun cdv A outer s H vs Q E hr h => ?_)
  · obtain ⟨p, wd, h, xs, F, k, rfl, _⟩ := h
    rfl
  · obtain ⟨p, wd, h, xs, F, k, rfl, hL, hk, q⟩ := h
    refine ⟨_, (pss_cons (ps_if (pt_cmpR op_eq (pv 1) pe_int (nomark _)) (pss_one (ps_ret pe_non)) pss_nil)
      (pss_one (ps_ret (pe_ix ix_list (pe_fld (pv 0) rfl) (pe_op op_sub (pv 1) pe_int) (fun _ _ => rfl))))), ?_⟩
    obtain ⟨dx, r, hp, hr', f1, f2, f3⟩ := hL.has
    refine ⟨_, rfl, rfl, _, rfl, ite2 (fun c => ?_) (fun c => ?_)⟩
    · have e : (k : Int) = 0 := V.int.inj (of_decide_eq_true c)
      rw [if_pos (by omega)] at q
      exact q
    · have e : ¬ (k : Int) = 0 := fun z => c (decide_eq_true (congrArg V.int z))
      have lt : k - 1 < xs.length := by omega
      rw [if_neg (by omega), List.getElem?_eq_getElem lt] at q
      refine ⟨_, rfl, p, _, dx, _, _, rfl, hp, T.cl_Ladder, T.n_Ladder__row, rfl, _, rfl, _, _, rfl, rfl, r, _, _, _, rfl, rfl, SqL.of hr', ?_, q⟩
      rw [show (k : Int) - 1 = ((k - 1 : Nat) : Int) by omega]
      refine atI_nat ?_
      rw [List.getElem?_map, List.getElem?_eq_getElem lt]
      rfl
def sp_ladder_at_or_none (T : Txt K mg) (R : Rep K T.c_Ladder) : Sp := fun vs H Q _ => ∃ (p : Addr) (w : Int) (h : Nat) (xs : List Int) (F : Addr → Prop) (k : Nat), vs = [.ref p, .int (k : Int)] ∧ R.Lad H p w h xs F ∧ k ≤ xs.length ∧ Q (oV xs[k]?) H
theorem ok_ladder_at_or_none (T : Txt K mg) : FnOk P w K mg base CX0 1 T.f_ladder_at_or_none T.fd_ladder_at_or_none ["self", "spot"] (sp_ladder_at_or_none T (theRep T)) := by
  refine T.F_ladder_at_or_none.ok sc_ladder_at_or_none (fun vs H Q E h => ?_) (fun cdv A outer s H vs Q E hr h => ?_)
  · obtain ⟨p, wd, h, xs, F, k, rfl, _⟩ := h
    rfl
  · obtain ⟨p, wd, h, xs, F, k, rfl, hL, hk, q⟩ := h
    refine ⟨_, (pss_cons (ps_if (pt_cmpR op_eq (pv 1) (pe_fld (pv 0) rfl) (nomark _)) (pss_one (ps_ret pe_non)) pss_nil)
      (pss_one (ps_ret (pe_ix ix_list (pe_fld (pv 0) rfl) (pv 1) (fun _ _ => rfl))))), ?_⟩
    obtain ⟨dx, r, hp, hr', f1, f2, f3⟩ := hL.has
    refine ⟨_, rfl, _, rfl, p, _, dx, _, _, rfl, hp, T.cl_Ladder, T.n_Ladder_many, rfl, rfl, _, rfl, ite2 (fun c => ?_) (fun c => ?_)⟩
    · have e : (k : Int) = (xs.length : Int) := V.int.inj (of_decide_eq_true c)
      rw [List.getElem?_eq_none (by omega)] at q
      exact q
    · have e : ¬ (k : Int) = (xs.length : Int) := fun z => c (decide_eq_true (congrArg V.int z))
      have lt : k < xs.length := by omega
      rw [List.getElem?_eq_getElem lt] at q
      refine ⟨_, rfl, p, _, dx, _, _, rfl, hp, T.cl_Ladder, T.n_Ladder__row, rfl, _, rfl, r, _, _, _, rfl, rfl, SqL.of hr', atI_nat ?_, q⟩
      rw [List.getElem?_map, List.getElem?_eq_getElem lt]
      rfl
def sp_ladder_heirs (T : Txt K mg) (R : Rep K T.c_Ladder) : Sp := fun vs H Q _ => ∃ (p : Addr) (w : Int) (h : Nat) (xs : List Int) (F : Addr → Prop) (n : Int), vs = [.ref p, .int n] ∧ R.Lad H p w h xs F ∧ xs.length ≤ 151 ∧ n ∈ xs ∧
  ∀ H' r, Same H H' → H r = none → H' r = some (.lst (heirL w h xs n)) → Q (.ref r) H'
theorem ok_ladder_heirs (T : Txt K mg) : FnOk P w K mg base CX0 4 T.f_ladder_heirs T.fd_ladder_heirs ["self", "number"] (sp_ladder_heirs T (theRep T)) := by
  have G_ladder_spot : FnOk P w K mg base CX0 1 T.f_ladder_spot T.fd_ladder_spot ["self", "number"] (sp_ladder_spot T (theRep T)) := ok_ladder_spot T
  have G_tall : FnOk P w K mg base CX0 3 T.f_tall T.fd_tall ["width", "high", "before", "number"] (sp_tall K) := ok_tall T
  have G_ladder_at_or_none : FnOk P w K mg base CX0 1 T.f_ladder_at_or_none T.fd_ladder_at_or_none ["self", "spot"] (sp_ladder_at_or_none T (theRep T)) := ok_ladder_at_or_none T
  have G_ladder_before : FnOk P w K mg base CX0 1 T.f_ladder_before T.fd_ladder_before ["self", "spot"] (sp_ladder_before T (theRep T)) := ok_ladder_before T
  refine T.F_ladder_heirs.ok sc_ladder_heirs (fun vs H Q E h => ?_) (fun cdv A outer s H vs Q E hr h => ?_)
  · obtain ⟨p, wd, h, xs, F, n, rfl, _⟩ := h
    rfl
  · obtain ⟨p, wd, h, xs, F, n, rfl, hL, hlen, hn, q⟩ := h
    refine ⟨_, (pss_cons (ps_set (i := 2) sc_ladder_heirs.nd rfl (.inl rfl) (pe_meth (pv 0) T.cl_Ladder T.m_ladder_spot G_ladder_spot (hr.mono (by decide)) T.bd_ladder_spot .nil pass0 (pa_cons (pv 1) pa_nil)))
      (pss_cons (ps_set (i := 3) sc_ladder_heirs.nd rfl (.inl rfl) (pe_call G_tall hr (by rfl) T.g_tall T.F_tall.kp T.bd_tall .nil pass0 (pa_cons (pe_fld (pv 0) rfl) (pa_cons (pe_fld (pv 0) rfl) (pa_cons (pe_meth (pv 0) T.cl_Ladder T.m_ladder_before G_ladder_before (hr.mono (by decide)) T.bd_ladder_before .nil pass0 (pa_cons (pv 2) pa_nil)) (pa_cons (pv 1) pa_nil))))))
      (pss_cons (ps_set (i := 4) sc_ladder_heirs.nd rfl (.inr rfl) (pe_meth (pv 0) T.cl_Ladder T.m_ladder_at_or_none G_ladder_at_or_none (hr.mono (by decide)) T.bd_ladder_at_or_none .nil pass0 (pa_cons (pe_op op_add (pv 2) pe_int) pa_nil)))
      (pss_cons (ps_if (pt_cmpR op_isN (pv 4) pe_non (nomark _)) (pss_one (ps_ret (pe_op op_rep (pe_lst (pa_cons pe_non pa_nil)) (pv 3)))) pss_nil)
      (pss_cons (ps_set (i := 5) sc_ladder_heirs.nd rfl (.inr rfl) (pe_call G_tall hr (by rfl) T.g_tall T.F_tall.kp T.bd_tall .nil pass0 (pa_cons (pe_fld (pv 0) rfl) (pa_cons (pe_fld (pv 0) rfl) (pa_cons (pv 1) (pa_cons (pv 4) pa_nil))))))
      (pss_one (ps_ret (pe_lc (own := [("level", 6)]) (g := gName 6) (by rfl) sc_ladder_heirs.nd (pi_range1 (by rfl) T.b_range (pa_cons (pv 3) pa_nil)) (blkOk_by (own := [("level", 6)]) (N := ["self", "number", "spot", "levels", "after", "beside", "level"]) (sc := defScope s_ladder_heirs) (by decide +kernel)) (fun _ _ _ _ _ => (pg_name (i := 6) sc_ladder_heirs.nd rfl (Or.inl rfl))) (fun _ _ _ _ _ => pts_nil) (fun _ _ _ _ _ => (pe_ifExp (pt_cmpR op_lt (pv 6) (pv 5) (nomark _)) pe_non (pv 4))))))))))), ?_⟩
    obtain ⟨dx, r, hp, hr', f1, f2, f3⟩ := hL.has
    have ok := hL.ok
    have h12 := ok.h12
    have lt := place_lt ok.rise hn
    refine ⟨_, rfl, p, dx, _, rfl, hp, rfl, _, rfl, p, wd, h, xs, F, n, rfl, hL, hlen, fun H1 s1 => ?_⟩
    have hL1 := (theRep T).same hL s1
    have hp1 := s1 _ _ hp
    refine ⟨_, rfl, p, _, dx, _, _, rfl, hp1, T.cl_Ladder, T.n_Ladder_width, rfl, _, rfl, p, _, dx, _, _, rfl, hp1, T.cl_Ladder, T.n_Ladder_high, rfl, _, rfl, p, dx, _, rfl, hp1, rfl, _, rfl, p, wd, h, xs, F, placeN xs n, rfl, hL1, by omega, _, rfl, wd, h, _, n, rfl, ok.w2, ok.w9, by omega, ?_⟩
    rw [← belowO_at ok.rise n, tallO_cnt]
    refine ⟨_, rfl, p, dx, _, rfl, hp1, rfl, _, rfl, _, _, rfl, rfl, p, wd, h, xs, F, placeN xs n + 1, by rw [Int.natCast_add]; rfl, hL1, by omega, ?_⟩
    rw [← aboveO_at ok.rise hn]
    have cl := cntN_le wd h xs n
    cases ha : aboveO xs n with
    | none =>
      refine ⟨_, rfl, rfl, _, rfl, ite2 (fun _ => ?_) (fun z => (z (decide_eq_true rfl)).elim)⟩
      refine ⟨(by show 1 ≤ sizeLine; decide), fun a na => ⟨_, rfl, a, _, _, rfl, rfl, upd_same, by omega, by omega, ?_, fun b nb => ?_⟩⟩
      · show 1 * _ ≤ sizeLine
        exact Nat.le_of_lt (small1000 (by omega))
      · have nb0 : H1 b = none := Same.free (same_upd na) nb
        refine q _ b ((s1.trans (same_upd na)).trans (same_upd nb)) (Same.free s1 nb0) ?_
        rw [upd_same]
        refine congrArg (fun t => some (HO.lst t)) ?_
        unfold heirL
        have e : (List.range (cntN wd h xs n)).map (fun l => oV (mateO wd xs n l)) = (List.range (cntN wd h xs n)).map fun _ => V.non := List.map_congr_left fun l _ => by rw [mateO_none ha]; rfl
        rw [e, List.map_const', List.length_range, Int.toNat_natCast, flat_one]
    | some g =>
      refine ⟨_, rfl, rfl, _, rfl, ite2 (fun z => nomatch (of_decide_eq_true z)) (fun _ => ?_)⟩
      refine ⟨_, rfl, p, _, dx, _, _, rfl, hp1, T.cl_Ladder, T.n_Ladder_width, rfl, _, rfl, p, _, dx, _, _, rfl, hp1, T.cl_Ladder, T.n_Ladder_high, rfl, _, rfl, _, rfl, wd, h, some n, g, rfl, ok.w2, ok.w9, by omega, ?_⟩
      dsimp only [gName]
      show tRet _ _ [nR p, nI n, nI (placeN xs n : Int), nI (cntN wd h xs n : Int), nI g, nI (tallO wd h (some n) g), none] _
      refine Evl.s_retL (xs := heirL wd h xs n) ?_ fun b H2 nb s2 hb => q H2 b (s1.trans s2) (Same.free s1 nb) hb
      have e : heirL wd h xs n = Evl.given (cntN wd h xs n : Int).toNat (fun _ => true) (fun l => if l < tallN wd h n g then .non else .int g) := by
        unfold Evl.given heirL
        rw [Int.toNat_natCast, List.filter_eq_self.mpr fun _ _ => rfl]
        refine List.map_congr_left fun l hl => ?_
        have := List.mem_range.mp hl
        rw [mateO_some ok.w2 ha (hh := h) (l := l) (by omega)]
        split <;> rfl
      rw [e]
      refine Evl.el_lcR1 (fun _ => true) _ (Evl.ea_cons (Evl.ev_var rfl) Evl.ea_nil) ⟨by omega, by omega⟩ (fun _ => rfl) (fun i H3 e3 hi => et_yes) (fun i H3 e3 hi _ => ?_)
      refine Evl.ev_if (b := decide ((i : Int) < tallO wd h (some n) g)) (Evl.et_test (Evl.ev_op (Evl.ev_var rfl) (Evl.ev_var rfl) Evl.rv_I0)) (fun c => ?_) (fun c => ?_)
      · have c2 : (i : Int) < (tallN wd h n g : Int) := of_decide_eq_true c
        show Evl.Ev _ _ _ (if i < tallN wd h n g then V.non else V.int g)
        rw [if_pos (by omega)]
        exact Evl.ev_c
      · have c2 : ¬ (i : Int) < (tallN wd h n g : Int) := of_decide_eq_false c
        show Evl.Ev _ _ _ (if i < tallN wd h n g then V.non else V.int g)
        rw [if_neg (by omega)]
        exact Evl.ev_var rfl
theorem ok_ladder_put (T : Txt K mg) : FnOk P w K mg base (L2.CX P w) 5 T.f_ladder_put T.fd_ladder_put ["self", "number"] (sp_ladder_put T (theRep T)) := by
  have G_ladder_has : FnOk P w K mg base (L2.CX P w) 2 T.f_ladder_has T.fd_ladder_has ["self", "number"] (sp_ladder_has T (theRep T)) := ok_ladder_has T
  have G_ladder_spot : FnOk P w K mg base CX0 1 T.f_ladder_spot T.fd_ladder_spot ["self", "number"] (sp_ladder_spot T (theRep T)) := ok_ladder_spot T
  have G_ladder_heirs : FnOk P w K mg base CX0 4 T.f_ladder_heirs T.fd_ladder_heirs ["self", "number"] (sp_ladder_heirs T (theRep T)) := ok_ladder_heirs T
  refine T.F_ladder_put.okX sc_ladder_put (fun vs H Q E h => ?_) (fun cdv A outer s H vs Q E hr h => ?_)
  · obtain ⟨p, wd, h, xs, F, G, n, rfl, _⟩ := h
    rfl
  · obtain ⟨p, wd, h, xs, F, G, n, rfl, v, hlen, bad, dup, good⟩ := h
    refine ⟨_, (pss_cons (ps_if (pt_val (pe_meth (pv 0) T.cl_Ladder T.m_ladder_has G_ladder_has (hr.mono (by decide)) T.bd_ladder_has .nil (passes_call (takes_of rfl rfl rfl rfl) (fun _ _ _ _ h => h)) (pa_cons (pv 1) pa_nil))) (pss_one (ps_raise rfl (takes_of rfl rfl rfl rfl) (pmk_own PySem.F.excBase_ValueError T.xp_Present T.x_Present T.kp_Present (raises_own T.bp_Present T.tp_Present) (by rfl)))) pss_nil)
      (pss_cons (ps_expr (pe_bm PySem.F.plainAttrs_list PySem.F.slot_list_insert PySem.F.type_list_insert mt_insert (pe_fld (pv 0) rfl) (pa_cons (pe_meth (pv 0) T.cl_Ladder T.m_ladder_spot G_ladder_spot (hr.mono (by decide)) T.bd_ladder_spot .nil pass0 (pa_cons (pv 1) pa_nil)) (pa_cons (pv 1) pa_nil))))
      (pss_cons (ps_fld (pv 0) (pe_callB call_len_seq (by rfl) T.b_len PySem.boot_len (pa_cons (pe_fld (pv 0) rfl) pa_nil)) rfl)
      (pss_one (ps_ret (pe_lc (own := [("level", 2), ("went", 3)]) (g := gTup K 2 (gCons (gName 2) (gCons (gName 3) gNil))) (by rfl) sc_ladder_put.nd (pi_enum (by rfl) T.b_enumerate (pa_cons (pe_meth (pv 0) T.cl_Ladder T.m_ladder_heirs G_ladder_heirs hr T.bd_ladder_heirs .nil pass0 (pa_cons (pv 1) pa_nil)) pa_nil)) (blkOk_by (own := [("level", 2), ("went", 3)]) (N := ["self", "number", "level", "went"]) (sc := defScope s_ladder_put) (by decide +kernel)) (fun _ _ _ _ _ => (pg_tup rfl (pgs_cons (pg_name (i := 2) sc_ladder_put.nd rfl (Or.inl rfl)) (pgs_cons (pg_name (i := 3) sc_ladder_put.nd rfl (Or.inl rfl)) pgs_nil)))) (fun _ _ _ _ _ => pts_nil) (fun _ _ _ _ _ => (pe_tup (pa_cons (pv 2) (pa_cons (pv 1) (pa_cons (pv 3) pa_nil))))))))))), ?_⟩
    have hL := v.lad
    obtain ⟨dx, r, hp, hr', f1, f2, f3⟩ := hL.has
    have ok := hL.ok
    refine ⟨_, rfl, p, dx, _, rfl, hp, rfl, _, rfl, p, wd, h, xs, F, n, rfl, hL, by omega, bad, fun a b H1 s1 => ?_⟩
    refine ⟨_, rfl, ite2 (fun c => dup (of_decide_eq_true c) H1 s1) (fun c => ?_)⟩
    have nx : n ∉ xs := fun z => c (decide_eq_true z)
    have hL1 := (theRep T).same hL s1
    have hp1 := s1 _ _ hp
    have hr1 := s1 _ _ hr'
    have lx : (xs.map V.int).length = xs.length := List.length_map ..
    refine ⟨_, rfl, p, _, dx, _, _, rfl, hp1, T.cl_Ladder, T.n_Ladder__row, rfl, .inl ⟨rfl, _, SqL.of hr1⟩, _, rfl, p, dx, _, rfl, hp1, rfl, _, rfl, p, wd, h, xs, F, n, rfl, hL1, by omega, fun H2 s2 => ?_⟩
    have hp2 := s2 _ _ hp1
    have hr2 := s2 _ _ hr1
    have pl := placeN_le xs n
    refine ⟨_, rfl, r, _, _, _, rfl, rfl, hr2, by rw [lx]; exact small1000 (by omega), by omega, by omega, ?_⟩
    have er : (xs.map V.int).take (placeN xs n : Int).toNat ++ [V.int n] ++ (xs.map V.int).drop (placeN xs n : Int).toNat = (insR n xs).map V.int := by
      rw [Int.toNat_natCast, ← insR_at ok.rise nx, List.map_append, List.map_append, List.map_take, List.map_drop]
      rfl
    rw [er]
    have pr : p ≠ r := ne_of hp1 hr1 (by intro z; cases z)
    have v2 : View (theRep T) G H2 p wd h xs F := v.grow (s1.trans s2)
    refine ⟨_, rfl, p, _, dx, _, _, rfl, by rw [upd_ne pr]; exact hp2, T.cl_Ladder, T.n_Ladder__row, rfl, r, _, rfl, .inl (SqL.of upd_same), _, rfl, p, _, dx, _, rfl, by rw [upd_ne pr]; exact hp2, T.cl_Ladder, T.n_Ladder_many, (by show 5 < 1000; decide), ?_⟩
    have ef : putF "many" (V.int (((insR n xs).map V.int).length : Int)) (flds wd h xs.length r) = flds wd h (insR n xs).length r := by
      rw [List.length_map]
      rfl
    rw [ef]
    have hp3 : upd (upd H2 r (.lst ((insR n xs).map V.int))) p (.ins T.c_Ladder dx (flds wd h (insR n xs).length r)) p = some (.ins T.c_Ladder dx (flds wd h (insR n xs).length r)) := upd_same
    have hr3 : upd (upd H2 r (.lst ((insR n xs).map V.int))) p (.ins T.c_Ladder dx (flds wd h (insR n xs).length r)) r = some (.lst ((insR n xs).map V.int)) := by rw [upd_ne pr.symm, upd_same]
    have g3 : Same G (upd (upd H2 r (.lst ((insR n xs).map V.int))) p (.ins T.c_Ladder dx (flds wd h (insR n xs).length r))) := fun b u e => by
      rw [upd_ne (ne_of_none e (v.out p f1)), upd_ne (ne_of_none e (v.out r f2))]
      exact v2.sub _ _ e
    revert hp3 hr3 g3
    generalize upd (upd H2 r (.lst ((insR n xs).map V.int))) p (.ins T.c_Ladder dx (flds wd h (insR n xs).length r)) = H3
    intro hp3 hr3 g3
    have hL3 : LadP T.c_Ladder H3 p wd h (insR n xs) F := ⟨ok.ins a b, dx, r, hp3, hr3, f1, f2, f3⟩
    have nin : n ∈ insR n xs := mem_insR.mpr (.inl rfl)
    refine ⟨_, rfl, p, dx, _, rfl, hp3, rfl, _, rfl, p, wd, h, insR n xs, F, n, rfl, hL3, by rw [insR_len nx]; omega, nin, fun H4 y s4 ny hy => ?_⟩
    have cl := cntN_le wd h (insR n xs) n
    have h12 := ok.h12
    refine ⟨y, _, rfl, SqL.of hy, fun D nD => ?_⟩
    have thr : ∀ b, F b → ∃ o, H4 b = some o := fun b fb => (theRep T).there ((theRep T).same hL3 s4) b fb
    refine lc_enumL (K := K) (xs := heirL wd h (insR n xs) n) (fun i H' => ∃ G1 us, Made G H4 G1 H' D F us ((List.range i).map fun l => dCh l (some n) (mateO wd xs n l)) ∧ us.length = i) ⟨G, [], ⟨Evl.Ex.refl _, (g3.trans s4).trans (same_upd nD), same_upd nD, v.out, thr, Same.free (g3.trans s4) nD, nD, upd_same, .nil⟩, rfl⟩ (fun i H' hi => ?_) (fun i x T1 H' hx hi nT => ?_) (fun H' hi => ?_)
    · obtain ⟨G1, us, m, _⟩ := hi
      exact SqL.of (m.hc _ _ hy)
    · obtain ⟨G1, us, m, ul⟩ := hi
      have ex := heirL_at hx
      rw [insR_mate] at ex
      subst ex
      have hi2 : i < cntN wd h (insR n xs) n := by
        have := (List.getElem?_eq_some_iff.mp hx).1
        rw [heirL_len] at this
        exact this
      refine ⟨T1, _, rfl, SqT.of upd_same, rfl, _, _, rfl, _, _, rfl, rfl, rfl, ?_⟩
      dsimp only [tYes]
      rw [if_pos rfl]
      refine ⟨_, rfl, _, rfl, _, rfl, (by show 3 ≤ sizeLine; decide), fun t nt => ⟨us, ?_, small1000 (by omega), ?_⟩⟩
      · have Dt : D ≠ t := fun e => by
          subst e
          have z : upd H' T1 (.tup [.int (i : Int), oV (mateO wd xs n i)]) D = some (.lst us) := by rw [upd_ne (ne_of_none m.eD nT)]; exact m.eD
          rw [z] at nt
          cases nt
        rw [upd_ne Dt, upd_ne (ne_of_none m.eD nT)]
        exact m.eD
      · refine ⟨upd G1 t (.tup [.int (i : Int), .int n, oV (mateO wd xs n i)]), us ++ [.ref t], ?_, by rw [List.length_append, ul]; rfl⟩
        rw [List.range_succ, List.map_append]
        exact m.step nT nt fun G2 => dhAll_ch i (some n) (mateO wd xs n i)
    · obtain ⟨G1, us, m, ul⟩ := hi
      rw [heirL_len, insR_cnt, ← chPut_cnt ok.w2] at m
      have gn : Same G1 (upd G1 D (.lst us)) := same_upd m.gD
      have hL5 : (theRep T).Lad H' p wd h (insR n xs) F := (theRep T).same ((theRep T).same hL3 s4) m.hc
      refine good a b nx H' (upd G1 D (.lst us)) F D us ⟨hL5, fun c u e => ?_, fun c fc => ?_⟩ (m.g1.trans gn) (Same.free m.g1 m.gD) upd_same (m.all.same gn)
      · by_cases hc : c = D
        · subst hc
          rw [upd_same] at e
          rw [← e]
          exact m.eD
        · rw [upd_ne hc] at e
          exact m.sub _ _ e
      · have hc : c ≠ D := fun z => by
          obtain ⟨o, e⟩ := m.there c fc
          rw [z, m.nD] at e
          cases e
        rw [upd_ne hc]
        exact m.out c fc
theorem ok_ladder_take (T : Txt K mg) : FnOk P w K mg base (L2.CX P w) 5 T.f_ladder_take T.fd_ladder_take ["self", "number"] (sp_ladder_take T (theRep T)) := by
  have G_ladder_heirs : FnOk P w K mg base CX0 4 T.f_ladder_heirs T.fd_ladder_heirs ["self", "number"] (sp_ladder_heirs T (theRep T)) := ok_ladder_heirs T
  have G_ladder_has : FnOk P w K mg base (L2.CX P w) 2 T.f_ladder_has T.fd_ladder_has ["self", "number"] (sp_ladder_has T (theRep T)) := ok_ladder_has T
  refine T.F_ladder_take.okX sc_ladder_take (fun vs H Q E h => ?_) (fun cdv A outer s H vs Q E hr h => ?_)
  · obtain ⟨p, wd, h, xs, F, G, n, rfl, _⟩ := h
    rfl
  · obtain ⟨p, wd, h, xs, F, G, n, rfl, v, hlen, bad, miss, good⟩ := h
    refine ⟨_, (pss_cons (ps_if (pt_not (pt_val (pe_meth (pv 0) T.cl_Ladder T.m_ladder_has G_ladder_has (hr.mono (by decide)) T.bd_ladder_has .nil (passes_call (takes_of rfl rfl rfl rfl) (fun _ _ _ _ h => h)) (pa_cons (pv 1) pa_nil)))) (pss_one (ps_raise rfl (takes_of rfl rfl rfl rfl) (pmk_own PySem.F.excBase_ValueError T.xp_Missing T.x_Missing T.kp_Missing (raises_own T.bp_Missing T.tp_Missing) (by rfl)))) pss_nil)
      (pss_cons (ps_set (i := 2) sc_ladder_take.nd rfl (.inl rfl) (pe_meth (pv 0) T.cl_Ladder T.m_ladder_heirs G_ladder_heirs hr T.bd_ladder_heirs .nil pass0 (pa_cons (pv 1) pa_nil)))
      (pss_cons (ps_expr (pe_bm PySem.F.plainAttrs_list PySem.F.slot_list_remove PySem.F.type_list_remove mt_remove (pe_fld (pv 0) rfl) (pa_cons (pv 1) pa_nil)))
      (pss_cons (ps_fld (pv 0) (pe_callB call_len_seq (by rfl) T.b_len PySem.boot_len (pa_cons (pe_fld (pv 0) rfl) pa_nil)) rfl)
      (pss_one (ps_ret (pe_lc (own := [("level", 3), ("came", 4)]) (g := gTup K 2 (gCons (gName 3) (gCons (gName 4) gNil))) (by rfl) sc_ladder_take.nd (pi_enum (by rfl) T.b_enumerate (pa_cons (pv 2) pa_nil)) (blkOk_by (own := [("level", 3), ("came", 4)]) (N := ["self", "number", "heirs", "level", "came"]) (sc := defScope s_ladder_take) (by decide +kernel)) (fun _ _ _ _ _ => (pg_tup rfl (pgs_cons (pg_name (i := 3) sc_ladder_take.nd rfl (Or.inl rfl)) (pgs_cons (pg_name (i := 4) sc_ladder_take.nd rfl (Or.inl rfl)) pgs_nil)))) (fun _ _ _ _ _ => pts_nil) (fun _ _ _ _ _ => (pe_tup (pa_cons (pv 3) (pa_cons (pv 4) (pa_cons (pv 1) pa_nil)))))))))))), ?_⟩
    have hL := v.lad
    obtain ⟨dx, r, hp, hr', f1, f2, f3⟩ := hL.has
    have ok := hL.ok
    refine ⟨_, rfl, p, dx, _, rfl, hp, rfl, _, rfl, p, wd, h, xs, F, n, rfl, hL, by omega, bad, fun a b H1 s1 => ?_⟩
    refine ⟨_, rfl, ?_⟩
    by_cases nx : n ∈ xs
    · rw [decide_eq_true nx]
      refine iteF ?_
      have hL1 := (theRep T).same hL s1
      have hp1 := s1 _ _ hp
      refine ⟨_, rfl, p, dx, _, rfl, hp1, rfl, _, rfl, p, wd, h, xs, F, n, rfl, hL1, by omega, nx, fun H2 y s2 ny hy => ?_⟩
      have hp2 := s2 _ _ hp1
      have hr2 := s2 _ _ (s1 _ _ hr')
      have lt := place_lt ok.rise nx
      have pr : p ≠ r := ne_of hp hr' (by intro z; cases z)
      have yr : y ≠ r := (ne_of_none (s1 _ _ hr') ny).symm
      have yp : y ≠ p := (ne_of_none hp1 ny).symm
      refine ⟨_, rfl, p, _, dx, _, _, rfl, hp2, T.cl_Ladder, T.n_Ladder__row, rfl, .inl ⟨rfl, _, SqL.of hr2⟩, _, rfl, r, xs, n, placeN xs n, rfl, rfl, hr2, at_place ok.rise nx, fun m hm e => ?_, ?_⟩
      · have m1 : m < xs.length := by omega
        have := rise_getD ok.rise hm lt
        rw [getD_eq m1, getD_eq lt] at this
        have e1 := at_place ok.rise nx
        rw [List.getElem?_eq_getElem lt] at e1
        rw [List.getElem?_eq_getElem m1] at e
        have e1 := Option.some.inj e1
        have e := Option.some.inj e
        omega
      rw [remR_at ok.rise nx]
      have v2 : View (theRep T) G H2 p wd h xs F := v.grow (s1.trans s2)
      refine ⟨_, rfl, p, _, dx, _, _, rfl, by rw [upd_ne pr]; exact hp2, T.cl_Ladder, T.n_Ladder__row, rfl, r, _, rfl, .inl (SqL.of upd_same), _, rfl, p, _, dx, _, rfl, by rw [upd_ne pr]; exact hp2, T.cl_Ladder, T.n_Ladder_many, (by show 5 < 1000; decide), ?_⟩
      have ef : putF "many" (V.int (((remR n xs).map V.int).length : Int)) (flds wd h xs.length r) = flds wd h (remR n xs).length r := by
        rw [List.length_map]
        rfl
      rw [ef]
      have hp3 : upd (upd H2 r (.lst ((remR n xs).map V.int))) p (.ins T.c_Ladder dx (flds wd h (remR n xs).length r)) p = some (.ins T.c_Ladder dx (flds wd h (remR n xs).length r)) := upd_same
      have hr3 : upd (upd H2 r (.lst ((remR n xs).map V.int))) p (.ins T.c_Ladder dx (flds wd h (remR n xs).length r)) r = some (.lst ((remR n xs).map V.int)) := by rw [upd_ne pr.symm, upd_same]
      have hy3 : upd (upd H2 r (.lst ((remR n xs).map V.int))) p (.ins T.c_Ladder dx (flds wd h (remR n xs).length r)) y = some (.lst (heirL wd h xs n)) := by
        rw [upd_ne yp, upd_ne yr]
        exact hy
      have g3 : Same G (upd (upd H2 r (.lst ((remR n xs).map V.int))) p (.ins T.c_Ladder dx (flds wd h (remR n xs).length r))) := fun b u e => by
        rw [upd_ne (ne_of_none e (v.out p f1)), upd_ne (ne_of_none e (v.out r f2))]
        exact v2.sub _ _ e
      revert hp3 hr3 g3 hy3
      generalize upd (upd H2 r (.lst ((remR n xs).map V.int))) p (.ins T.c_Ladder dx (flds wd h (remR n xs).length r)) = H4
      intro hp3 hr3 hy4 g3
      have hL3 : LadP T.c_Ladder H4 p wd h (remR n xs) F := ⟨ok.rem, dx, r, hp3, hr3, f1, f2, f3⟩
      have cl := cntN_le wd h xs n
      have h12 := ok.h12
      refine ⟨_, rfl, y, _, rfl, SqL.of hy4, fun D nD => ?_⟩
      have thr : ∀ b, F b → ∃ o, H4 b = some o := fun b fb => (theRep T).there hL3 b fb
      refine lc_enumL (K := K) (xs := heirL wd h xs n) (fun i H' => ∃ G1 us, Made G H4 G1 H' D F us ((List.range i).map fun l => dCh l (mateO wd xs n l) (some n)) ∧ us.length = i) ⟨G, [], ⟨Evl.Ex.refl _, g3.trans (same_upd nD), same_upd nD, v.out, thr, Same.free g3 nD, nD, upd_same, .nil⟩, rfl⟩ (fun i H' hi => ?_) (fun i x T1 H' hx hi nT => ?_) (fun H' hi => ?_)
      · obtain ⟨G1, us, m, _⟩ := hi
        exact SqL.of (m.hc _ _ hy4)
      · obtain ⟨G1, us, m, ul⟩ := hi
        have ex := heirL_at hx
        subst ex
        have hi2 : i < cntN wd h xs n := by
          have := (List.getElem?_eq_some_iff.mp hx).1
          rw [heirL_len] at this
          exact this
        refine ⟨T1, _, rfl, SqT.of upd_same, rfl, _, _, rfl, _, _, rfl, rfl, rfl, ?_⟩
        dsimp only [tYes]
        rw [if_pos rfl]
        refine ⟨_, rfl, _, rfl, _, rfl, (by show 3 ≤ sizeLine; decide), fun t nt => ⟨us, ?_, small1000 (by omega), ?_⟩⟩
        · have Dt : D ≠ t := fun e => by
            subst e
            have z : upd H' T1 (.tup [.int (i : Int), oV (mateO wd xs n i)]) D = some (.lst us) := by rw [upd_ne (ne_of_none m.eD nT)]; exact m.eD
            rw [z] at nt
            cases nt
          rw [upd_ne Dt, upd_ne (ne_of_none m.eD nT)]
          exact m.eD
        · refine ⟨upd G1 t (.tup [.int (i : Int), oV (mateO wd xs n i), .int n]), us ++ [.ref t], ?_, by rw [List.length_append, ul]; rfl⟩
          rw [List.range_succ, List.map_append]
          exact m.step nT nt fun G2 => dhAll_ch i (mateO wd xs n i) (some n)
      · obtain ⟨G1, us, m, ul⟩ := hi
        rw [heirL_len, ← chTake_cnt ok.w2] at m
        have gn : Same G1 (upd G1 D (.lst us)) := same_upd m.gD
        have hL5 : (theRep T).Lad H' p wd h (remR n xs) F := (theRep T).same hL3 m.hc
        refine good nx H' (upd G1 D (.lst us)) F D us ⟨hL5, fun c u e => ?_, fun c fc => ?_⟩ (m.g1.trans gn) (Same.free m.g1 m.gD) upd_same (m.all.same gn)
        · by_cases hc : c = D
          · subst hc
            rw [upd_same] at e
            rw [← e]
            exact m.eD
          · rw [upd_ne hc] at e
            exact m.sub _ _ e
        · have hc : c ≠ D := fun z => by
            obtain ⟨o, e⟩ := m.there c fc
            rw [z, m.nD] at e
            cases e
          rw [upd_ne hc]
          exact m.out c fc
    · rw [decide_eq_false nx]
      exact iteT (miss a b nx H1 s1)
def sp_ladder_check_level (T : Txt K mg) (R : Rep K T.c_Ladder) : Sp := fun vs H Q E => ∃ (p : Addr) (w : Int) (h : Nat) (xs : List Int) (F : Addr → Prop) (n : Int), vs = [.ref p, .int n] ∧ R.Lad H p w h xs F ∧
  ((n < 0 ∨ (h : Int) < n) → E (.ref T.c_NoLevel) none H) ∧ (0 ≤ n → n ≤ (h : Int) → Q .non H)
theorem ok_ladder_check_level (T : Txt K mg) : FnOk P w K mg base (L2.CX P w) 1 T.f_ladder_check_level T.fd_ladder_check_level ["self", "level"] (sp_ladder_check_level T (theRep T)) := by
  refine T.F_ladder_check_level.okX sc_ladder_check_level (fun vs H Q E h => ?_) (fun cdv A outer s H vs Q E hr h => ?_)
  · obtain ⟨p, wd, h, xs, F, n, rfl, _⟩ := h
    rfl
  · obtain ⟨p, wd, h, xs, F, n, rfl, hL, bad, good⟩ := h
    refine ⟨_, (pss_one (ps_if (PW.pt (pw_or (pt_cmpR op_lt (pv 1) pe_int (nomark _)) (pw_or1 (pt_cmpR op_gt (pv 1) (pe_fld (pv 0) rfl) (nomark _))))) (pss_one (ps_raise rfl (takes_of rfl rfl rfl rfl) (pmk_own PySem.F.excBase_ValueError T.xp_NoLevel T.x_NoLevel T.kp_NoLevel (raises_own T.bp_NoLevel T.tp_NoLevel) (by rfl)))) pss_nil)), ?_⟩
    obtain ⟨dx, r, hp, hr', f1, f2, f3⟩ := hL.has
    refine ⟨_, rfl, _, _, rfl, rfl, _, rfl, ite2 (fun c => iteT (bad (.inl (of_decide_eq_true c)))) (fun c => ?_)⟩
    refine ⟨_, rfl, _, rfl, p, _, dx, _, _, rfl, hp, T.cl_Ladder, T.n_Ladder_high, rfl, _, _, rfl, rfl, _, rfl, ite2 (fun c2 => bad (.inr (of_decide_eq_true c2))) (fun c2 => good ?_ ?_)⟩
    · have z : ¬ n < 0 := fun q => c (decide_eq_true q)
      omega
    · have z : ¬ (h : Int) < n := fun q => c2 (decide_eq_true q)
      omega
def sp_ladder_begin (T : Txt K mg) (R : Rep K T.c_Ladder) : Sp := fun vs H Q _ => ∃ (p : Addr) (w : Int) (h : Nat) (xs : List Int) (F : Addr → Prop) (l : Nat) (n : Int), vs = [.ref p, .int (l : Int), .int n] ∧ R.Lad H p w h xs F ∧ l ≤ h ∧ Q (.int (beginN w l n)) H
theorem ok_ladder_begin (T : Txt K mg) : FnOk P w K mg base CX0 3 T.f_ladder_begin T.fd_ladder_begin ["self", "level", "number"] (sp_ladder_begin T (theRep T)) := by
  have G_block : FnOk P w K mg base CX0 2 T.f_block T.fd_block ["width", "level", "number"] (sp_block K) := ok_block T
  have G_power : FnOk P w K mg base CX0 1 T.f_power T.fd_power ["width", "level"] (sp_power K) := ok_power T
  refine T.F_ladder_begin.ok sc_ladder_begin (fun vs H Q E h => ?_) (fun cdv A outer s H vs Q E hr h => ?_)
  · obtain ⟨p, wd, h, xs, F, l, n, rfl, _⟩ := h
    rfl
  · obtain ⟨p, wd, h, xs, F, l, n, rfl, hL, hl, q⟩ := h
    refine ⟨_, (pss_one (ps_ret (pe_op op_mul (pe_call G_block hr (by rfl) T.g_block T.F_block.kp T.bd_block .nil pass0 (pa_cons (pe_fld (pv 0) rfl) (pa_cons (pv 1) (pa_cons (pv 2) pa_nil)))) (pe_call G_power (hr.mono (by decide)) (by rfl) T.g_power T.F_power.kp T.bd_power .nil pass0 (pa_cons (pe_fld (pv 0) rfl) (pa_cons (pv 1) pa_nil)))))), ?_⟩
    obtain ⟨dx, r, hp, hr', f1, f2, f3⟩ := hL.has
    have ok := hL.ok
    have h12 := ok.h12
    have p0 := pow_pos' ok.w2 l
    have p1 := pow_le12 ok.w2 ok.w9 (show l ≤ 12 by omega)
    exact ⟨_, rfl, p, _, dx, _, _, rfl, hp, T.cl_Ladder, T.n_Ladder_width, rfl, _, rfl, _, rfl, wd, l, n, rfl, ok.w2, ok.w9, by omega, _, rfl, p, _, dx, _, _, rfl, hp, T.cl_Ladder, T.n_Ladder_width, rfl, _, rfl, wd, l, rfl, ok.w2, ok.w9, by omega, _, _, rfl, rfl, .inr ⟨by omega, by omega⟩, q⟩
def sp_ladder_reach (T : Txt K mg) (R : Rep K T.c_Ladder) : Sp := fun vs H Q _ => ∃ (p : Addr) (w : Int) (h : Nat) (xs : List Int) (F : Addr → Prop) (l k : Nat), vs = [.ref p, .int (l : Int), .int (k : Int)] ∧ R.Lad H p w h xs F ∧ xs.length ≤ 150 ∧ l ≤ h ∧ k < xs.length ∧ ∀ H', Same H H' → Q (.int (reachN w l xs k : Int)) H'
theorem ok_ladder_reach (T : Txt K mg) : FnOk P w K mg base CX0 4 T.f_ladder_reach T.fd_ladder_reach ["self", "level", "spot"] (sp_ladder_reach T (theRep T)) := by
  have G_ladder_begin : FnOk P w K mg base CX0 3 T.f_ladder_begin T.fd_ladder_begin ["self", "level", "number"] (sp_ladder_begin T (theRep T)) := ok_ladder_begin T
  have G_ladder_spot : FnOk P w K mg base CX0 1 T.f_ladder_spot T.fd_ladder_spot ["self", "number"] (sp_ladder_spot T (theRep T)) := ok_ladder_spot T
  have G_power : FnOk P w K mg base CX0 1 T.f_power T.fd_power ["width", "level"] (sp_power K) := ok_power T
  refine T.F_ladder_reach.ok sc_ladder_reach (fun vs H Q E h => ?_) (fun cdv A outer s H vs Q E hr h => ?_)
  · obtain ⟨p, wd, h, xs, F, l, k, rfl, _⟩ := h
    rfl
  · obtain ⟨p, wd, h, xs, F, l, k, rfl, hL, hlen, hl, hk, q⟩ := h
    refine ⟨_, (pss_cons (ps_set (i := 3) sc_ladder_reach.nd rfl (.inl rfl) (pe_meth (pv 0) T.cl_Ladder T.m_ladder_begin G_ladder_begin hr T.bd_ladder_begin .nil pass0 (pa_cons (pv 1) (pa_cons (pe_ix ix_list (pe_fld (pv 0) rfl) (pv 2) (fun _ _ => rfl)) pa_nil))))
      (pss_one (ps_ret (pe_meth (pv 0) T.cl_Ladder T.m_ladder_spot G_ladder_spot (hr.mono (by decide)) T.bd_ladder_spot .nil pass0 (pa_cons (pe_op op_add (pv 3) (pe_call G_power (hr.mono (by decide)) (by rfl) T.g_power T.F_power.kp T.bd_power .nil pass0 (pa_cons (pe_fld (pv 0) rfl) (pa_cons (pv 1) pa_nil)))) pa_nil))))), ?_⟩
    obtain ⟨dx, r, hp, hr', f1, f2, f3⟩ := hL.has
    have ok := hL.ok
    have h12 := ok.h12
    refine ⟨_, rfl, p, dx, _, rfl, hp, rfl, _, rfl, _, rfl, p, _, dx, _, _, rfl, hp, T.cl_Ladder, T.n_Ladder__row, rfl, _, rfl, r, _, _, _, rfl, rfl, SqL.of hr', atI_nat (map_at hk), p, wd, h, xs, F, l, _, rfl, hL, hl, ?_⟩
    refine ⟨_, rfl, p, dx, _, rfl, hp, rfl, _, rfl, _, rfl, p, _, dx, _, _, rfl, hp, T.cl_Ladder, T.n_Ladder_width, rfl, _, rfl, wd, l, rfl, ok.w2, ok.w9, by omega, _, _, rfl, rfl, p, wd, h, xs, F, _, rfl, hL, by omega, fun H' s1 => q H' s1⟩
theorem ok_ladder_ahead (T : Txt K mg) : FnOk P w K mg base (L2.CX P w) 5 T.f_ladder_ahead T.fd_ladder_ahead ["self", "level", "number"] (sp_ladder_ahead T (theRep T)) := by
  have G_ladder_check_level : FnOk P w K mg base (L2.CX P w) 1 T.f_ladder_check_level T.fd_ladder_check_level ["self", "level"] (sp_ladder_check_level T (theRep T)) := ok_ladder_check_level T
  have G_ladder_begin : FnOk P w K mg base CX0 3 T.f_ladder_begin T.fd_ladder_begin ["self", "level", "number"] (sp_ladder_begin T (theRep T)) := ok_ladder_begin T
  have G_ladder_spot : FnOk P w K mg base CX0 1 T.f_ladder_spot T.fd_ladder_spot ["self", "number"] (sp_ladder_spot T (theRep T)) := ok_ladder_spot T
  have G_ladder_reach : FnOk P w K mg base CX0 4 T.f_ladder_reach T.fd_ladder_reach ["self", "level", "spot"] (sp_ladder_reach T (theRep T)) := ok_ladder_reach T
  have G_ladder_at_or_none : FnOk P w K mg base CX0 1 T.f_ladder_at_or_none T.fd_ladder_at_or_none ["self", "spot"] (sp_ladder_at_or_none T (theRep T)) := ok_ladder_at_or_none T
  refine T.F_ladder_ahead.okX sc_ladder_ahead (fun vs H Q E h => ?_) (fun cdv A outer s H vs Q E hr h => ?_)
  · obtain ⟨p, wd, h, xs, F, L, n, rfl, _⟩ := h
    rfl
  · obtain ⟨p, wd, h, xs, F, L, n, rfl, hL, hlen, bad, miss, good⟩ := h
    refine ⟨_, (pss_cons (ps_expr (pe_meth (pv 0) T.cl_Ladder T.m_ladder_check_level G_ladder_check_level (hr.mono (by decide)) T.bd_ladder_check_level .nil (passes_call (takes_of rfl rfl rfl rfl) (fun _ _ _ _ h => h)) (pa_cons (pv 1) pa_nil)))
      (pss_cons (ps_set (i := 3) sc_ladder_ahead.nd rfl (.inl rfl) (pe_meth (pv 0) T.cl_Ladder T.m_ladder_begin G_ladder_begin (hr.mono (by decide)) T.bd_ladder_begin .nil pass0 (pa_cons (pv 1) (pa_cons (pv 2) pa_nil))))
      (pss_cons (ps_set (i := 4) sc_ladder_ahead.nd rfl (.inl rfl) (pe_meth (pv 0) T.cl_Ladder T.m_ladder_spot G_ladder_spot (hr.mono (by decide)) T.bd_ladder_spot .nil pass0 (pa_cons (pv 3) pa_nil)))
      (pss_cons (ps_if (pt_cmpR op_ne (pe_meth (pv 0) T.cl_Ladder T.m_ladder_at_or_none G_ladder_at_or_none (hr.mono (by decide)) T.bd_ladder_at_or_none .nil pass0 (pa_cons (pv 4) pa_nil)) (pv 2) (nomark _)) (pss_one (ps_raise rfl (takes_of rfl rfl rfl rfl) (pmk_own PySem.F.excBase_ValueError T.xp_Missing T.x_Missing T.kp_Missing (raises_own T.bp_Missing T.tp_Missing) (by rfl)))) pss_nil)
      (pss_cons (ps_set (i := 5) sc_ladder_ahead.nd rfl (.inl rfl) (pe_meth (pv 0) T.cl_Ladder T.m_ladder_reach G_ladder_reach hr T.bd_ladder_reach .nil pass0 (pa_cons (pv 1) (pa_cons (pv 4) pa_nil))))
      (pss_one (ps_ret (pe_tup (pa_cons (pe_meth (pv 0) T.cl_Ladder T.m_ladder_at_or_none G_ladder_at_or_none (hr.mono (by decide)) T.bd_ladder_at_or_none .nil pass0 (pa_cons (pv 5) pa_nil)) (pa_cons (pe_op op_sub (pv 5) (pv 4)) pa_nil)))))))))), ?_⟩
    obtain ⟨dx, r, hp, hr', f1, f2, f3⟩ := hL.has
    have ok := hL.ok
    refine ⟨_, rfl, p, dx, _, rfl, hp, rfl, _, rfl, p, wd, h, xs, F, L, rfl, hL, fun c => bad c H (Evl.Ex.refl _), fun a b => ?_⟩
    obtain ⟨l, rfl⟩ : ∃ l : Nat, L = (l : Int) := ⟨L.toNat, by omega⟩
    have hl : l ≤ h := by omega
    refine ⟨_, rfl, p, dx, _, rfl, hp, rfl, _, rfl, _, rfl, p, wd, h, xs, F, l, n, rfl, hL, hl, ?_⟩
    refine ⟨_, rfl, p, dx, _, rfl, hp, rfl, _, rfl, p, wd, h, xs, F, _, rfl, hL, by omega, fun H1 s1 => ?_⟩
    have hL1 := (theRep T).same hL s1
    have hp1 := s1 _ _ hp
    have lb := lev_begin ok.w2 (l := l) ok.rise (n := n)
    have pl := placeN_le xs (beginN wd l n)
    refine ⟨_, rfl, p, dx, _, rfl, hp1, rfl, _, rfl, p, wd, h, xs, F, placeN xs (beginN wd l n), rfl, hL1, pl, ?_⟩
    generalize placeN xs (beginN wd l n) = k at lb pl
    by_cases hn : n ∈ levL wd l xs
    · have e := lb.mp hn
      rw [e]
      obtain ⟨hk, e2⟩ := List.getElem?_eq_some_iff.mp e
      have e3 : xs.getD k 0 = n := by rw [getD_eq hk, e2]
      refine ⟨_, rfl, rfl, _, rfl, iteNS rfl ?_⟩
      refine ⟨_, rfl, p, dx, _, rfl, hp1, rfl, _, rfl, _, rfl, p, wd, h, xs, F, l, k, rfl, hL1, hlen, hl, hk, fun H2 s2 => ?_⟩
      have hL2 := (theRep T).same hL1 s2
      have hp2 := s2 _ _ hp1
      refine ⟨_, rfl, p, dx, _, rfl, hp2, rfl, _, rfl, p, wd, h, xs, F, reachN wd l xs k, rfl, hL2, reach_le _ _ _ _, ?_⟩
      refine ⟨_, rfl, _, rfl, _, _, rfl, rfl, (by show 2 ≤ sizeLine; decide), fun t nt => ?_⟩
      refine good l rfl hl hn _ t (s1.trans (s2.trans (same_upd nt))) (Same.free (s1.trans s2) nt) ?_
      have g := gap_reach ok.w2 (l := l) ok.rise hk
      have nx := next_reach ok.w2 (l := l) ok.rise hk
      rw [e3] at g nx
      rw [upd_same, g, nx]
    · refine ⟨_, rfl, ?_⟩
      have ne : ¬ oV xs[k]? = V.int n := fun z => hn (lb.mpr (by
        cases hh : xs[k]? with
        | none =>
          rw [hh] at z
          cases z
        | some y =>
          rw [hh] at z
          rw [V.int.inj z]))
      refine ⟨?_, _, rfl, iteNT ne (miss l rfl hl hn H1 s1)⟩
      cases xs[k]? <;> rfl
def sp_ladder_check_place (T : Txt K mg) (R : Rep K T.c_Ladder) : Sp := fun vs H Q E => ∃ (p : Addr) (w : Int) (h : Nat) (xs : List Int) (F : Addr → Prop) (n : Int), vs = [.ref p, .int n] ∧ R.Lad H p w h xs F ∧
  ((n < 0 ∨ (xs.length : Int) ≤ n) → E (.ref T.c_NoPlace) none H) ∧ (0 ≤ n → n < (xs.length : Int) → Q .non H)
theorem ok_ladder_check_place (T : Txt K mg) : FnOk P w K mg base (L2.CX P w) 1 T.f_ladder_check_place T.fd_ladder_check_place ["self", "place"] (sp_ladder_check_place T (theRep T)) := by
  refine T.F_ladder_check_place.okX sc_ladder_check_place (fun vs H Q E h => ?_) (fun cdv A outer s H vs Q E hr h => ?_)
  · obtain ⟨p, wd, h, xs, F, n, rfl, _⟩ := h
    rfl
  · obtain ⟨p, wd, h, xs, F, n, rfl, hL, bad, good⟩ := h
    refine ⟨_, (pss_one (ps_if (PW.pt (pw_or (pt_cmpR op_lt (pv 1) pe_int (nomark _)) (pw_or1 (pt_cmpR op_ge (pv 1) (pe_fld (pv 0) rfl) (nomark _))))) (pss_one (ps_raise rfl (takes_of rfl rfl rfl rfl) (pmk_own PySem.F.excBase_ValueError T.xp_NoPlace T.x_NoPlace T.kp_NoPlace (raises_own T.bp_NoPlace T.tp_NoPlace) (by rfl)))) pss_nil)), ?_⟩
    obtain ⟨dx, r, hp, hr', f1, f2, f3⟩ := hL.has
    refine ⟨_, rfl, _, _, rfl, rfl, _, rfl, ite2 (fun c => iteT (bad (.inl (of_decide_eq_true c)))) (fun c => ?_)⟩
    refine ⟨_, rfl, _, rfl, p, _, dx, _, _, rfl, hp, T.cl_Ladder, T.n_Ladder_many, rfl, _, _, rfl, rfl, _, rfl, ite2 (fun c2 => bad (.inr (of_decide_eq_true c2))) (fun c2 => good ?_ ?_)⟩
    · have z : ¬ n < 0 := fun q => c (decide_eq_true q)
      omega
    · have z : ¬ (xs.length : Int) ≤ n := fun q => c2 (decide_eq_true q)
      omega
theorem ok_ladder_at (T : Txt K mg) : FnOk P w K mg base (L2.CX P w) 2 T.f_ladder_at T.fd_ladder_at ["self", "place"] (sp_ladder_at T (theRep T)) := by
  have G_ladder_check_place : FnOk P w K mg base (L2.CX P w) 1 T.f_ladder_check_place T.fd_ladder_check_place ["self", "place"] (sp_ladder_check_place T (theRep T)) := ok_ladder_check_place T
  refine T.F_ladder_at.okX sc_ladder_at (fun vs H Q E h => ?_) (fun cdv A outer s H vs Q E hr h => ?_)
  · obtain ⟨p, wd, h, xs, F, k, rfl, _⟩ := h
    rfl
  · obtain ⟨p, wd, h, xs, F, k, rfl, hL, hlen, bad, good⟩ := h
    refine ⟨_, (pss_cons (ps_expr (pe_meth (pv 0) T.cl_Ladder T.m_ladder_check_place G_ladder_check_place hr T.bd_ladder_check_place .nil (passes_call (takes_of rfl rfl rfl rfl) (fun _ _ _ _ h => h)) (pa_cons (pv 1) pa_nil)))
      (pss_one (ps_ret (pe_ix ix_list (pe_fld (pv 0) rfl) (pv 1) (fun _ _ => rfl))))), ?_⟩
    obtain ⟨dx, r, hp, hr', f1, f2, f3⟩ := hL.has
    refine ⟨_, rfl, p, dx, _, rfl, hp, rfl, _, rfl, p, wd, h, xs, F, k, rfl, hL, fun c => bad c H (Evl.Ex.refl _), fun a b => ?_⟩
    obtain ⟨j, rfl⟩ : ∃ j : Nat, k = (j : Int) := ⟨k.toNat, by omega⟩
    exact ⟨_, rfl, p, _, dx, _, _, rfl, hp, T.cl_Ladder, T.n_Ladder__row, rfl, _, rfl, r, _, _, _, rfl, rfl, SqL.of hr', atI_nat (map_at (by omega)), good j rfl (by omega) H (Evl.Ex.refl _)⟩
def sp_ladder_walk (T : Txt K mg) (R : Rep K T.c_Ladder) : Sp := fun vs H Q _ => ∃ (p : Addr) (w : Int) (h : Nat) (xs : List Int) (F : Addr → Prop) (G : Hp) (n k : Int), vs = [.ref p, .int k] ∧ View R G H p w h xs F ∧ xs.length ≤ 150 ∧ k = (placeN xs (n + 1) : Int) - 1 ∧
  Gives R G H p w h xs F ((trailR w h xs n).map stD) Q
theorem ok_ladder_walk (T : Txt K mg) : FnOk P w K mg base CX0 5 T.f_ladder_walk T.fd_ladder_walk ["self", "last"] (sp_ladder_walk T (theRep T)) := by
  have G_ladder_reach : FnOk P w K mg base CX0 4 T.f_ladder_reach T.fd_ladder_reach ["self", "level", "spot"] (sp_ladder_reach T (theRep T)) := ok_ladder_reach T
  refine T.F_ladder_walk.ok sc_ladder_walk (fun vs H Q E h => ?_) (fun cdv A outer s H vs Q E hr h => ?_)
  · obtain ⟨p, wd, h, xs, F, G, n, k, rfl, _⟩ := h
    rfl
  · obtain ⟨p, wd, h, xs, F, G, n, k, rfl, v, hlen, hk, q⟩ := h
    refine ⟨_, (pss_cons (ps_set (i := 2) sc_ladder_walk.nd rfl (.inl rfl) (pe_lst pa_nil))
      (pss_cons (ps_if (pt_cmpR op_lt (pv 1) pe_int (nomark _)) (pss_one (ps_ret (pv 2))) pss_nil)
      (pss_cons (ps_set (i := 3) sc_ladder_walk.nd rfl (.inl rfl) (pe_fld (pv 0) rfl))
      (pss_cons (ps_set (i := 4) sc_ladder_walk.nd rfl (.inl rfl) pe_int)
      (pss_cons (ps_while PassesOwn.never (pt_cmpR op_ge (pv 3) pe_int (nomark _)) (pss_cons (ps_expr (pe_bm PySem.F.plainAttrs_list PySem.F.slot_list_append PySem.F.type_list_append mt_append (pv 2) (pa_cons (pe_tup (pa_cons (pv 3) (pa_cons (pe_ix ix_list (pe_fld (pv 0) rfl) (pv 4) (fun _ _ => rfl)) pa_nil))) pa_nil)))
      (pss_cons (ps_set (i := 5) sc_ladder_walk.nd rfl (.inl rfl) (pe_meth (pv 0) T.cl_Ladder T.m_ladder_reach G_ladder_reach hr T.bd_ladder_reach .nil pass0 (pa_cons (pv 3) (pa_cons (pv 4) pa_nil))))
      (pss_one (ps_if (pt_cmpR op_le (pv 5) (pv 1) (nomark _)) (pss_one (ps_set (i := 4) sc_ladder_walk.nd rfl (.inl rfl) (pv 5))) (pss_one (ps_set (i := 3) sc_ladder_walk.nd rfl (.inl rfl) (pe_op op_sub (pv 3) pe_int))))))))
      (pss_one (ps_ret (pv 2)))))))), ?_⟩
    have hL := v.lad
    obtain ⟨dx, r, hp, hr', f1, f2, f3⟩ := hL.has
    have ok := hL.ok
    have h12 := ok.h12
    have pl := placeN_le xs (n + 1)
    refine ⟨Nat.zero_le _, fun D nD => ?_⟩
    have hp0 : upd H D (.lst []) p = some (.ins T.c_Ladder dx (flds wd h xs.length r)) := (same_upd nD) _ _ hp
    have m0 : Made G H G (upd H D (.lst [])) D F [] [] := ⟨Evl.Ex.refl _, v.sub.trans (same_upd nD), same_upd nD, v.out, fun b fb => (theRep T).there hL b fb, Same.free v.sub nD, nD, upd_same, .nil⟩
    have fin : ∀ H' G1 us, Made G H G1 H' D F us ((trailR wd h xs n).map stD) → Q (.ref D) H' := fun H' G1 us m => by
      have gn : Same G1 (upd G1 D (.lst us)) := same_upd m.gD
      exact q H' (upd G1 D (.lst us)) D us (m.view ((theRep T).same hL m.hc)) (m.g1.trans gn) m.hc nD (Same.free m.g1 m.gD) upd_same (m.all.same gn)
    have tr := trailR_rest (w := wd) (h := h) ok.rise n
    refine ⟨_, rfl, _, _, rfl, rfl, _, rfl, ite2 (fun c => ?_) (fun c => ?_)⟩
    · have c2 : k < 0 := of_decide_eq_true c
      rw [if_pos (by omega)] at tr
      rw [tr] at fin
      exact ⟨_, rfl, fin _ _ _ m0⟩
    have c2 : ¬ k < 0 := fun z => c (decide_eq_true z)
    rw [if_neg (by omega)] at tr
    refine ⟨_, rfl, p, _, dx, _, _, rfl, hp0, T.cl_Ladder, T.n_Ladder_high, rfl, ?_⟩
    dsimp only [gName]
    refine Evl.q_asg Evl.ev_c fun H1 s1 => ?_
    show tSeq (tWhile _ _) _ _ [nR p, nI k, nR D, nI (h : Int), nI 0, none] _
    refine Evl.q_while (fun m σ H' => ∃ (lv i : Nat) (ts : List (Nat × Int)) (G1 : Hp) (us : List V) (rv : Option V), m = lv + (placeN xs (n + 1) - i) ∧ σ = [nR p, nI k, nR D, nI ((lv : Int) - 1), nI (i : Int), rv] ∧ Made G H G1 H' D F us (ts.map stD) ∧ ts ++ restW wd xs n i lv = trailR wd h xs n ∧ i < placeN xs (n + 1) ∧ lv ≤ h + 1 ∧ us.length + lv + (placeN xs (n + 1) - i) ≤ h + 1 + placeN xs (n + 1)) (h + 1 + placeN xs (n + 1))
      ⟨h + 1, 0, [], G, [], none, rfl, ?_, m0.grow s1, by rw [tr]; rfl, by omega, Nat.le_refl _, by show 0 + (h + 1) + (placeN xs (n + 1) - 0) ≤ _; omega⟩ (fun m σ H' hw => ?_)
    · rw [show ((h + 1 : Nat) : Int) - 1 = (h : Int) by omega]
      rfl
    obtain ⟨lv, i, ts, G1, us, rv, rfl, rfl, md, et, il, lh, sz⟩ := hw
    refine ⟨decide (0 ≤ (lv : Int) - 1), Evl.et_test (Evl.ev_op (Evl.ev_var rfl) Evl.ev_c Evl.rv_I0), fun hb H2 s2 => ?_, fun hb H2 s2 => ?_⟩
    · have l1 : 0 ≤ (lv : Int) - 1 := of_decide_eq_true hb
      obtain ⟨l, rfl⟩ : ∃ l : Nat, lv = l + 1 := ⟨lv - 1, by omega⟩
      have el : ((l + 1 : Nat) : Int) - 1 = (l : Int) := by omega
      rw [el]
      refine ⟨_, fun _ _ x => x, ?_⟩
      have md2 := md.grow s2
      have hp2 := md2.hc _ _ hp
      have hr2 := md2.hc _ _ hr'
      have ix : i < xs.length := by omega
      refine ⟨_, rfl, .inl ⟨rfl, _, SqL.of md2.eD⟩, _, rfl, _, rfl, p, _, dx, _, _, rfl, hp2, T.cl_Ladder, T.n_Ladder__row, rfl, _, rfl, r, _, _, _, rfl, rfl, SqL.of hr2, atI_nat (map_at ix), (by show 2 ≤ sizeLine; decide), fun t nt => ?_⟩
      refine ⟨D, us, _, rfl, rfl, by rw [upd_ne (ne_of_none md2.eD nt)]; exact md2.eD, small1000 (by omega), ?_⟩
      have md3 := md2.step0 (zs := [.int (l : Int), .int (xs.getD i 0)]) (es := [.int (l : Int), .int (xs.getD i 0)]) nt fun G2 => .cons (.int _) (.cons (.int _) .nil)
      have hL3 := (theRep T).same hL md3.hc
      have rs := restW_step ok.w2 ok.rise n l ix
      have gt := reach_gt ok.w2 (l := l) ok.rise ix
      have ul : (us ++ [V.ref t]).length = us.length + 1 := by rw [List.length_append]; rfl
      refine ⟨_, rfl, p, dx, _, rfl, md3.hc _ _ hp, rfl, _, rfl, _, rfl, p, wd, h, xs, F, l, i, rfl, hL3, hlen, by omega, ix, fun H4 s4 => ?_⟩
      have md4 := md3.grow s4
      refine ⟨_, rfl, _, rfl, _, _, rfl, rfl, _, rfl, ite2 (fun c => ?_) (fun c => ?_)⟩
      · have c3 : (reachN wd l xs i : Int) ≤ k := of_decide_eq_true c
        rw [if_pos (by omega)] at rs
        refine ⟨_, rfl, l + 1 + (placeN xs (n + 1) - reachN wd l xs i), by omega, l + 1, reachN wd l xs i, ts ++ [(l, xs.getD i 0)], _, _, nI (reachN wd l xs i : Int), rfl, ?_, by rw [List.map_append]; exact md4, ?_, by omega, lh, by omega⟩
        · rw [el]
          rfl
        · rw [← et, rs, List.append_assoc]
          rfl
      · have c3 : ¬ (reachN wd l xs i : Int) ≤ k := fun z => c (decide_eq_true z)
        rw [if_neg (by omega)] at rs
        refine ⟨_, rfl, _, _, rfl, rfl, l + (placeN xs (n + 1) - i), by omega, l, i, ts ++ [(l, xs.getD i 0)], _, _, nI (reachN wd l xs i : Int), rfl, rfl, by rw [List.map_append]; exact md4, ?_, il, by omega, by omega⟩
        rw [← et, rs, List.append_assoc]
        rfl
    · have l0 : ¬ 0 ≤ (lv : Int) - 1 := of_decide_eq_false hb
      obtain rfl : lv = 0 := by omega
      have e : ts = trailR wd h xs n := by
        rw [← et]
        exact (List.append_nil ts).symm
      rw [e] at md
      exact ⟨_, rfl, fin _ _ _ (md.grow s2)⟩
theorem ok_ladder_way (T : Txt K mg) : FnOk P w K mg base (L2.CX P w) 6 T.f_ladder_way T.fd_ladder_way ["self", "place"] (sp_ladder_way T (theRep T)) := by
  have G_ladder_check_place : FnOk P w K mg base (L2.CX P w) 1 T.f_ladder_check_place T.fd_ladder_check_place ["self", "place"] (sp_ladder_check_place T (theRep T)) := ok_ladder_check_place T
  have G_ladder_walk : FnOk P w K mg base CX0 5 T.f_ladder_walk T.fd_ladder_walk ["self", "last"] (sp_ladder_walk T (theRep T)) := ok_ladder_walk T
  refine T.F_ladder_way.okX sc_ladder_way (fun vs H Q E h => ?_) (fun cdv A outer s H vs Q E hr h => ?_)
  · obtain ⟨p, wd, h, xs, F, G, k, rfl, _⟩ := h
    rfl
  · obtain ⟨p, wd, h, xs, F, G, k, rfl, v, hlen, bad, good⟩ := h
    refine ⟨_, (pss_cons (ps_expr (pe_meth (pv 0) T.cl_Ladder T.m_ladder_check_place G_ladder_check_place (hr.mono (by decide)) T.bd_ladder_check_place .nil (passes_call (takes_of rfl rfl rfl rfl) (fun _ _ _ _ h => h)) (pa_cons (pv 1) pa_nil)))
      (pss_one (ps_ret (pe_meth (pv 0) T.cl_Ladder T.m_ladder_walk G_ladder_walk hr T.bd_ladder_walk .nil pass0 (pa_cons (pv 1) pa_nil))))), ?_⟩
    have hL := v.lad
    obtain ⟨dx, r, hp, hr', f1, f2, f3⟩ := hL.has
    have ok := hL.ok
    refine ⟨_, rfl, p, dx, _, rfl, hp, rfl, _, rfl, p, wd, h, xs, F, k, rfl, hL, fun c => bad c H (Evl.Ex.refl _), fun a b => ?_⟩
    obtain ⟨j, rfl⟩ : ∃ j : Nat, k = (j : Int) := ⟨k.toNat, by omega⟩
    have jl : j < xs.length := by omega
    refine ⟨_, rfl, p, dx, _, rfl, hp, rfl, _, rfl, p, wd, h, xs, F, G, xs.getD j 0, _, rfl, v, hlen, ?_, good j rfl jl⟩
    rw [place_next ok.rise jl]
    omega
def sp_ladder_check_end (T : Txt K mg) (R : Rep K T.c_Ladder) : Sp := fun vs H Q E => ∃ (p : Addr) (w : Int) (h : Nat) (xs : List Int) (F : Addr → Prop) (n : Int), vs = [.ref p, .int n] ∧ R.Lad H p w h xs F ∧
  ((n < 0 ∨ w ^ h < n) → E (.ref T.c_OutOfRange) none H) ∧ (0 ≤ n → n ≤ w ^ h → Q .non H)
theorem ok_ladder_check_end (T : Txt K mg) : FnOk P w K mg base (L2.CX P w) 1 T.f_ladder_check_end T.fd_ladder_check_end ["self", "number"] (sp_ladder_check_end T (theRep T)) := by
  refine T.F_ladder_check_end.okX sc_ladder_check_end (fun vs H Q E h => ?_) (fun cdv A outer s H vs Q E hr h => ?_)
  · obtain ⟨p, wd, h, xs, F, n, rfl, _⟩ := h
    rfl
  · obtain ⟨p, wd, h, xs, F, n, rfl, hL, bad, good⟩ := h
    refine ⟨_, (pss_one (ps_if (PW.pt (pw_or (pt_cmpR op_lt (pv 1) pe_int (nomark _)) (pw_or1 (pt_cmpR op_gt (pv 1) (pe_fld (pv 0) rfl) (nomark _))))) (pss_one (ps_raise rfl (takes_of rfl rfl rfl rfl) (pmk_own PySem.F.excBase_ValueError T.xp_OutOfRange T.x_OutOfRange T.kp_OutOfRange (raises_own T.bp_OutOfRange T.tp_OutOfRange) (by rfl)))) pss_nil)), ?_⟩
    obtain ⟨dx, r, hp, hr', f1, f2, f3⟩ := hL.has
    refine ⟨_, rfl, _, _, rfl, rfl, _, rfl, ite2 (fun c => iteT (bad (.inl (of_decide_eq_true c)))) (fun c => ?_)⟩
    refine ⟨_, rfl, _, rfl, p, _, dx, _, _, rfl, hp, T.cl_Ladder, T.n_Ladder_limit, rfl, _, _, rfl, rfl, _, rfl, ite2 (fun c2 => bad (.inr (of_decide_eq_true c2))) (fun c2 => good ?_ ?_)⟩
    · have z : ¬ n < 0 := fun q => c (decide_eq_true q)
      omega
    · have z : ¬ wd ^ h < n := fun q => c2 (decide_eq_true q)
      omega
theorem ok_ladder_stretch (T : Txt K mg) : FnOk P w K mg base (L2.CX P w) 2 T.f_ladder_stretch T.fd_ladder_stretch ["self", "low", "high"] (sp_ladder_stretch T (theRep T)) := by
  have G_ladder_check_end : FnOk P w K mg base (L2.CX P w) 1 T.f_ladder_check_end T.fd_ladder_check_end ["self", "number"] (sp_ladder_check_end T (theRep T)) := ok_ladder_check_end T
  refine T.F_ladder_stretch.okX sc_ladder_stretch (fun vs H Q E h => ?_) (fun cdv A outer s H vs Q E hr h => ?_)
  · obtain ⟨p, wd, h, xs, F, lo, hi, rfl, _⟩ := h
    rfl
  · obtain ⟨p, wd, h, xs, F, lo, hi, rfl, hL, hlen, bad, good⟩ := h
    refine ⟨_, (pss_cons (ps_expr (pe_meth (pv 0) T.cl_Ladder T.m_ladder_check_end G_ladder_check_end hr T.bd_ladder_check_end .nil (passes_call (takes_of rfl rfl rfl rfl) (fun _ _ _ _ h => h)) (pa_cons (pv 1) pa_nil)))
      (pss_cons (ps_expr (pe_meth (pv 0) T.cl_Ladder T.m_ladder_check_end G_ladder_check_end hr T.bd_ladder_check_end .nil (passes_call (takes_of rfl rfl rfl rfl) (fun _ _ _ _ h => h)) (pa_cons (pv 2) pa_nil)))
      (pss_one (ps_ret (pe_lc (own := [("number", 3)]) (g := gName 3) (by rfl) sc_ladder_stretch.nd (pi_list (pe_fld (pv 0) rfl)) (blkOk_by (own := [("number", 3)]) (N := ["self", "low", "high", "number"]) (sc := defScope s_ladder_stretch) (by decide +kernel)) (fun _ _ _ _ _ => (pg_name (i := 3) sc_ladder_stretch.nd rfl (Or.inl rfl))) (fun _ _ _ _ _ => (pts_one (PW.pt (pw_and (pt_cmpR op_le (pv 1) (pv 3) (nomark _)) (pw_and1 (pt_cmpR op_lt (pv 3) (pv 2) (nomark _))))))) (fun _ _ _ _ _ => (pv 3))))))), ?_⟩
    obtain ⟨dx, r, hp, hr', f1, f2, f3⟩ := hL.has
    refine ⟨_, rfl, p, dx, _, rfl, hp, rfl, _, rfl, p, wd, h, xs, F, lo, rfl, hL, fun c => bad (by omega) H (Evl.Ex.refl _), fun a b => ?_⟩
    refine ⟨_, rfl, p, dx, _, rfl, hp, rfl, _, rfl, p, wd, h, xs, F, hi, rfl, hL, fun c => bad (by omega) H (Evl.Ex.refl _), fun a2 b2 => ?_⟩
    dsimp only
    refine Evl.s_retL (xs := (stretchL xs lo hi).map V.int) ?_ fun d H2 nd s2 hd => good a b a2 b2 H2 d s2 nd hd
    exact el_fil (fun x => decide (lo ≤ x) && decide (x < hi)) (ev_fld (Evl.ev_var rfl) hp T.cl_Ladder T.n_Ladder__row rfl) (SqL.of hr') (by omega) (fun _ => rfl) (fun x _ H1 _ => Evl.et_and (Evl.et_test (Evl.ev_op (Evl.ev_var rfl) (Evl.ev_var rfl) Evl.rv_I0)) fun _ => Evl.et_test (Evl.ev_op (Evl.ev_var rfl) (Evl.ev_var rfl) Evl.rv_I0)) (fun x _ H1 _ _ => Evl.ev_var rfl)
theorem ok_ladder_counted (T : Txt K mg) : FnOk P w K mg base (L2.CX P w) 3 T.f_ladder_counted T.fd_ladder_counted ["self", "low", "high"] (sp_ladder_counted T (theRep T)) := by
  have G_ladder_stretch : FnOk P w K mg base (L2.CX P w) 2 T.f_ladder_stretch T.fd_ladder_stretch ["self", "low", "high"] (sp_ladder_stretch T (theRep T)) := ok_ladder_stretch T
  refine T.F_ladder_counted.okX sc_ladder_counted (fun vs H Q E h => ?_) (fun cdv A outer s H vs Q E hr h => ?_)
  · obtain ⟨p, wd, h, xs, F, lo, hi, rfl, _⟩ := h
    rfl
  · obtain ⟨p, wd, h, xs, F, lo, hi, rfl, hL, hlen, bad, good⟩ := h
    refine ⟨_, (pss_one (ps_ret (pe_callB call_len_seq (by rfl) T.b_len PySem.boot_len (pa_cons (pe_meth (pv 0) T.cl_Ladder T.m_ladder_stretch G_ladder_stretch hr T.bd_ladder_stretch .nil (passes_call (takes_of rfl rfl rfl rfl) (fun _ _ _ _ h => h)) (pa_cons (pv 1) (pa_cons (pv 2) pa_nil))) pa_nil)))), ?_⟩
    obtain ⟨dx, r, hp, hr', f1, f2, f3⟩ := hL.has
    refine ⟨_, rfl, p, dx, _, rfl, hp, rfl, _, rfl, _, rfl, p, wd, h, xs, F, lo, hi, rfl, hL, hlen, bad, fun a b a2 b2 H1 d s1 nd hd => ?_⟩
    refine ⟨d, _, rfl, .inl (SqL.of hd), ?_⟩
    rw [List.length_map]
    exact good a b a2 b2 H1 s1
theorem theProg (T : Txt K mg) : Prog P w K mg base T (theRep T) := { init := (ok_ladder_init T).mono (by decide), put := (ok_ladder_put T).mono (by decide), take := (ok_ladder_take T).mono (by decide), ahead := (ok_ladder_ahead T).mono (by decide), at_ := (ok_ladder_at T).mono (by decide), way := (ok_ladder_way T).mono (by decide), stretch := (ok_ladder_stretch T).mono (by decide), counted := (ok_ladder_counted T).mono (by decide) }
end
theorem all_mk {l : PySem.W.OpenLaw} {w : World} {K : PySem.W.Frag} {h : Heap} {mg : Str → Option Value} {fa : Addr} {f_power f_block f_thinned f_tall f_ladder_init f_ladder_put f_ladder_take f_ladder_has f_ladder_row f_ladder_level f_ladder_ahead f_ladder_trail f_ladder_below f_ladder_above f_ladder_place f_ladder_at f_ladder_way f_ladder_stretch f_ladder_counted f_ladder_check_number f_ladder_check_end f_ladder_check_level f_ladder_check_place f_ladder_spot f_ladder_at_or_none f_ladder_before f_ladder_begin f_ladder_reach f_ladder_heirs f_ladder_walk f_l_whole f_l_cell_at f_l_number f_l_deed f_l_missing f_l_no_place f_l_gap f_l_way f_l_stretch f_l_refused f_l_filled f_law c_Ladder c_LadderError c_BadSize c_OutOfRange c_Present c_Missing c_NoLevel c_NoPlace : Addr} (X : K.In h) (G : h.Ns mainGlobals mg) (hfa : mg "law" = some (.ref fa))
    {od_power an_power od_block an_block od_thinned an_thinned od_tall an_tall od_ladder_init an_ladder_init od_ladder_put an_ladder_put od_ladder_take an_ladder_take od_ladder_has an_ladder_has od_ladder_row an_ladder_row od_ladder_level an_ladder_level od_ladder_ahead an_ladder_ahead od_ladder_trail an_ladder_trail od_ladder_below an_ladder_below od_ladder_above an_ladder_above od_ladder_place an_ladder_place od_ladder_at an_ladder_at od_ladder_way an_ladder_way od_ladder_stretch an_ladder_stretch od_ladder_counted an_ladder_counted od_ladder_check_number an_ladder_check_number od_ladder_check_end an_ladder_check_end od_ladder_check_level an_ladder_check_level od_ladder_check_place an_ladder_check_place od_ladder_spot an_ladder_spot od_ladder_at_or_none an_ladder_at_or_none od_ladder_before an_ladder_before od_ladder_begin an_ladder_begin od_ladder_reach an_ladder_reach od_ladder_heirs an_ladder_heirs od_ladder_walk an_ladder_walk od_l_whole an_l_whole od_l_cell_at an_l_cell_at od_l_number an_l_number od_l_deed an_l_deed od_l_missing an_l_missing od_l_no_place an_l_no_place od_l_gap an_l_gap od_l_way an_l_way od_l_stretch an_l_stretch od_l_refused an_l_refused od_l_filled an_l_filled od_law an_law : Option Addr} {sl_power sl_block sl_thinned sl_tall sl_ladder_init sl_ladder_put sl_ladder_take sl_ladder_has sl_ladder_row sl_ladder_level sl_ladder_ahead sl_ladder_trail sl_ladder_below sl_ladder_above sl_ladder_place sl_ladder_at sl_ladder_way sl_ladder_stretch sl_ladder_counted sl_ladder_check_number sl_ladder_check_end sl_ladder_check_level sl_ladder_check_place sl_ladder_spot sl_ladder_at_or_none sl_ladder_before sl_ladder_begin sl_ladder_reach sl_ladder_heirs sl_ladder_walk sl_l_whole sl_l_cell_at sl_l_number sl_l_deed sl_l_missing sl_l_no_place sl_l_gap sl_l_way sl_l_stretch sl_l_refused sl_l_filled sl_law : Array (Option Value)} {oc_power kV_power dc_power pm_power cd_power ct_power oc_block kV_block dc_block pm_block cd_block ct_block oc_thinned kV_thinned dc_thinned pm_thinned cd_thinned ct_thinned oc_tall kV_tall dc_tall pm_tall cd_tall ct_tall oc_ladder_init kV_ladder_init dc_ladder_init pm_ladder_init cd_ladder_init ct_ladder_init oc_ladder_put kV_ladder_put dc_ladder_put pm_ladder_put cd_ladder_put ct_ladder_put oc_ladder_take kV_ladder_take dc_ladder_take pm_ladder_take cd_ladder_take ct_ladder_take oc_ladder_has kV_ladder_has dc_ladder_has pm_ladder_has cd_ladder_has ct_ladder_has oc_ladder_row kV_ladder_row dc_ladder_row pm_ladder_row cd_ladder_row ct_ladder_row oc_ladder_level kV_ladder_level dc_ladder_level pm_ladder_level cd_ladder_level ct_ladder_level oc_ladder_ahead kV_ladder_ahead dc_ladder_ahead pm_ladder_ahead cd_ladder_ahead ct_ladder_ahead oc_ladder_trail kV_ladder_trail dc_ladder_trail pm_ladder_trail cd_ladder_trail ct_ladder_trail oc_ladder_below kV_ladder_below dc_ladder_below pm_ladder_below cd_ladder_below ct_ladder_below oc_ladder_above kV_ladder_above dc_ladder_above pm_ladder_above cd_ladder_above ct_ladder_above oc_ladder_place kV_ladder_place dc_ladder_place pm_ladder_place cd_ladder_place ct_ladder_place oc_ladder_at kV_ladder_at dc_ladder_at pm_ladder_at cd_ladder_at ct_ladder_at oc_ladder_way kV_ladder_way dc_ladder_way pm_ladder_way cd_ladder_way ct_ladder_way oc_ladder_stretch kV_ladder_stretch dc_ladder_stretch pm_ladder_stretch cd_ladder_stretch ct_ladder_stretch oc_ladder_counted kV_ladder_counted dc_ladder_counted pm_ladder_counted cd_ladder_counted ct_ladder_counted oc_ladder_check_number kV_ladder_check_number dc_ladder_check_number pm_ladder_check_number cd_ladder_check_number ct_ladder_check_number oc_ladder_check_end kV_ladder_check_end dc_ladder_check_end pm_ladder_check_end cd_ladder_check_end ct_ladder_check_end oc_ladder_check_level kV_ladder_check_level dc_ladder_check_level pm_ladder_check_level cd_ladder_check_level ct_ladder_check_level oc_ladder_check_place kV_ladder_check_place dc_ladder_check_place pm_ladder_check_place cd_ladder_check_place ct_ladder_check_place oc_ladder_spot kV_ladder_spot dc_ladder_spot pm_ladder_spot cd_ladder_spot ct_ladder_spot oc_ladder_at_or_none kV_ladder_at_or_none dc_ladder_at_or_none pm_ladder_at_or_none cd_ladder_at_or_none ct_ladder_at_or_none oc_ladder_before kV_ladder_before dc_ladder_before pm_ladder_before cd_ladder_before ct_ladder_before oc_ladder_begin kV_ladder_begin dc_ladder_begin pm_ladder_begin cd_ladder_begin ct_ladder_begin oc_ladder_reach kV_ladder_reach dc_ladder_reach pm_ladder_reach cd_ladder_reach ct_ladder_reach oc_ladder_heirs kV_ladder_heirs dc_ladder_heirs pm_ladder_heirs cd_ladder_heirs ct_ladder_heirs oc_ladder_walk kV_ladder_walk dc_ladder_walk pm_ladder_walk cd_ladder_walk ct_ladder_walk oc_l_whole kV_l_whole dc_l_whole pm_l_whole cd_l_whole ct_l_whole oc_l_cell_at kV_l_cell_at dc_l_cell_at pm_l_cell_at cd_l_cell_at ct_l_cell_at oc_l_number kV_l_number dc_l_number pm_l_number cd_l_number ct_l_number oc_l_deed kV_l_deed dc_l_deed pm_l_deed cd_l_deed ct_l_deed oc_l_missing kV_l_missing dc_l_missing pm_l_missing cd_l_missing ct_l_missing oc_l_no_place kV_l_no_place dc_l_no_place pm_l_no_place cd_l_no_place ct_l_no_place oc_l_gap kV_l_gap dc_l_gap pm_l_gap cd_l_gap ct_l_gap oc_l_way kV_l_way dc_l_way pm_l_way cd_l_way ct_l_way oc_l_stretch kV_l_stretch dc_l_stretch pm_l_stretch cd_l_stretch ct_l_stretch oc_l_refused kV_l_refused dc_l_refused pm_l_refused cd_l_refused ct_l_refused oc_l_filled kV_l_filled dc_l_filled pm_l_filled cd_l_filled ct_l_filled oc_law kV_law dc_law pm_law cd_law ct_law : Value}
    (aC_Ladder : PySem.W.nsIn K mainGlobals "Ladder" = some (some (.ref c_Ladder)))
    (aC_LadderError : PySem.W.nsIn K mainGlobals "LadderError" = some (some (.ref c_LadderError)))
    (aC_BadSize : PySem.W.nsIn K mainGlobals "BadSize" = some (some (.ref c_BadSize)))
    (aC_OutOfRange : PySem.W.nsIn K mainGlobals "OutOfRange" = some (some (.ref c_OutOfRange)))
    (aC_Present : PySem.W.nsIn K mainGlobals "Present" = some (some (.ref c_Present)))
    (aC_Missing : PySem.W.nsIn K mainGlobals "Missing" = some (some (.ref c_Missing)))
    (aC_NoLevel : PySem.W.nsIn K mainGlobals "NoLevel" = some (some (.ref c_NoLevel)))
    (aC_NoPlace : PySem.W.nsIn K mainGlobals "NoPlace" = some (some (.ref c_NoPlace)))
    (a_power : PySem.W.nsIn K mainGlobals "power" = some (some (.ref f_power)))
    (l_power : K.lookup f_power = some ⟨oc_power, od_power, .func (PySem.W.fnOf "power" "power" (defArgs s_power) (defBody s_power) (defScope s_power) .none kV_power dc_power pm_power an_power cd_power ct_power), sl_power⟩)
    (c_power : PySem.W.codeIn K cd_power "power" = true)
    (k_power : PySem.W.keepIn K (.ref f_power) = true)
    (a_block : PySem.W.nsIn K mainGlobals "block" = some (some (.ref f_block)))
    (l_block : K.lookup f_block = some ⟨oc_block, od_block, .func (PySem.W.fnOf "block" "block" (defArgs s_block) (defBody s_block) (defScope s_block) .none kV_block dc_block pm_block an_block cd_block ct_block), sl_block⟩)
    (c_block : PySem.W.codeIn K cd_block "block" = true)
    (k_block : PySem.W.keepIn K (.ref f_block) = true)
    (a_thinned : PySem.W.nsIn K mainGlobals "thinned" = some (some (.ref f_thinned)))
    (l_thinned : K.lookup f_thinned = some ⟨oc_thinned, od_thinned, .func (PySem.W.fnOf "thinned" "thinned" (defArgs s_thinned) (defBody s_thinned) (defScope s_thinned) .none kV_thinned dc_thinned pm_thinned an_thinned cd_thinned ct_thinned), sl_thinned⟩)
    (c_thinned : PySem.W.codeIn K cd_thinned "thinned" = true)
    (k_thinned : PySem.W.keepIn K (.ref f_thinned) = true)
    (a_tall : PySem.W.nsIn K mainGlobals "tall" = some (some (.ref f_tall)))
    (l_tall : K.lookup f_tall = some ⟨oc_tall, od_tall, .func (PySem.W.fnOf "tall" "tall" (defArgs s_tall) (defBody s_tall) (defScope s_tall) .none kV_tall dc_tall pm_tall an_tall cd_tall ct_tall), sl_tall⟩)
    (c_tall : PySem.W.codeIn K cd_tall "tall" = true)
    (k_tall : PySem.W.keepIn K (.ref f_tall) = true)
    (a_ladder_init : PySem.W.findIn K (.ref c_Ladder) "__init__" = some (some (.ref f_ladder_init)))
    (l_ladder_init : K.lookup f_ladder_init = some ⟨oc_ladder_init, od_ladder_init, .func (PySem.W.fnOf "__init__" "Ladder.__init__" (defArgs s_ladder_init) (defBody s_ladder_init) (defScope s_ladder_init) .none kV_ladder_init dc_ladder_init pm_ladder_init an_ladder_init cd_ladder_init ct_ladder_init), sl_ladder_init⟩)
    (c_ladder_init : PySem.W.codeIn K cd_ladder_init "Ladder.__init__" = true)
    (k_ladder_init : PySem.W.keepIn K (.ref f_ladder_init) = true)
    (a_ladder_put : PySem.W.findIn K (.ref c_Ladder) "put" = some (some (.ref f_ladder_put)))
    (l_ladder_put : K.lookup f_ladder_put = some ⟨oc_ladder_put, od_ladder_put, .func (PySem.W.fnOf "put" "Ladder.put" (defArgs s_ladder_put) (defBody s_ladder_put) (defScope s_ladder_put) .none kV_ladder_put dc_ladder_put pm_ladder_put an_ladder_put cd_ladder_put ct_ladder_put), sl_ladder_put⟩)
    (c_ladder_put : PySem.W.codeIn K cd_ladder_put "Ladder.put" = true)
    (k_ladder_put : PySem.W.keepIn K (.ref f_ladder_put) = true)
    (a_ladder_take : PySem.W.findIn K (.ref c_Ladder) "take" = some (some (.ref f_ladder_take)))
    (l_ladder_take : K.lookup f_ladder_take = some ⟨oc_ladder_take, od_ladder_take, .func (PySem.W.fnOf "take" "Ladder.take" (defArgs s_ladder_take) (defBody s_ladder_take) (defScope s_ladder_take) .none kV_ladder_take dc_ladder_take pm_ladder_take an_ladder_take cd_ladder_take ct_ladder_take), sl_ladder_take⟩)
    (c_ladder_take : PySem.W.codeIn K cd_ladder_take "Ladder.take" = true)
    (k_ladder_take : PySem.W.keepIn K (.ref f_ladder_take) = true)
    (a_ladder_has : PySem.W.findIn K (.ref c_Ladder) "has" = some (some (.ref f_ladder_has)))
    (l_ladder_has : K.lookup f_ladder_has = some ⟨oc_ladder_has, od_ladder_has, .func (PySem.W.fnOf "has" "Ladder.has" (defArgs s_ladder_has) (defBody s_ladder_has) (defScope s_ladder_has) .none kV_ladder_has dc_ladder_has pm_ladder_has an_ladder_has cd_ladder_has ct_ladder_has), sl_ladder_has⟩)
    (c_ladder_has : PySem.W.codeIn K cd_ladder_has "Ladder.has" = true)
    (k_ladder_has : PySem.W.keepIn K (.ref f_ladder_has) = true)
    (a_ladder_row : PySem.W.findIn K (.ref c_Ladder) "row" = some (some (.ref f_ladder_row)))
    (l_ladder_row : K.lookup f_ladder_row = some ⟨oc_ladder_row, od_ladder_row, .func (PySem.W.fnOf "row" "Ladder.row" (defArgs s_ladder_row) (defBody s_ladder_row) (defScope s_ladder_row) .none kV_ladder_row dc_ladder_row pm_ladder_row an_ladder_row cd_ladder_row ct_ladder_row), sl_ladder_row⟩)
    (c_ladder_row : PySem.W.codeIn K cd_ladder_row "Ladder.row" = true)
    (k_ladder_row : PySem.W.keepIn K (.ref f_ladder_row) = true)
    (a_ladder_level : PySem.W.findIn K (.ref c_Ladder) "level" = some (some (.ref f_ladder_level)))
    (l_ladder_level : K.lookup f_ladder_level = some ⟨oc_ladder_level, od_ladder_level, .func (PySem.W.fnOf "level" "Ladder.level" (defArgs s_ladder_level) (defBody s_ladder_level) (defScope s_ladder_level) .none kV_ladder_level dc_ladder_level pm_ladder_level an_ladder_level cd_ladder_level ct_ladder_level), sl_ladder_level⟩)
    (c_ladder_level : PySem.W.codeIn K cd_ladder_level "Ladder.level" = true)
    (k_ladder_level : PySem.W.keepIn K (.ref f_ladder_level) = true)
    (a_ladder_ahead : PySem.W.findIn K (.ref c_Ladder) "ahead" = some (some (.ref f_ladder_ahead)))
    (l_ladder_ahead : K.lookup f_ladder_ahead = some ⟨oc_ladder_ahead, od_ladder_ahead, .func (PySem.W.fnOf "ahead" "Ladder.ahead" (defArgs s_ladder_ahead) (defBody s_ladder_ahead) (defScope s_ladder_ahead) .none kV_ladder_ahead dc_ladder_ahead pm_ladder_ahead an_ladder_ahead cd_ladder_ahead ct_ladder_ahead), sl_ladder_ahead⟩)
    (c_ladder_ahead : PySem.W.codeIn K cd_ladder_ahead "Ladder.ahead" = true)
    (k_ladder_ahead : PySem.W.keepIn K (.ref f_ladder_ahead) = true)
    (a_ladder_trail : PySem.W.findIn K (.ref c_Ladder) "trail" = some (some (.ref f_ladder_trail)))
    (l_ladder_trail : K.lookup f_ladder_trail = some ⟨oc_ladder_trail, od_ladder_trail, .func (PySem.W.fnOf "trail" "Ladder.trail" (defArgs s_ladder_trail) (defBody s_ladder_trail) (defScope s_ladder_trail) .none kV_ladder_trail dc_ladder_trail pm_ladder_trail an_ladder_trail cd_ladder_trail ct_ladder_trail), sl_ladder_trail⟩)
    (c_ladder_trail : PySem.W.codeIn K cd_ladder_trail "Ladder.trail" = true)
    (k_ladder_trail : PySem.W.keepIn K (.ref f_ladder_trail) = true)
    (a_ladder_below : PySem.W.findIn K (.ref c_Ladder) "below" = some (some (.ref f_ladder_below)))
    (l_ladder_below : K.lookup f_ladder_below = some ⟨oc_ladder_below, od_ladder_below, .func (PySem.W.fnOf "below" "Ladder.below" (defArgs s_ladder_below) (defBody s_ladder_below) (defScope s_ladder_below) .none kV_ladder_below dc_ladder_below pm_ladder_below an_ladder_below cd_ladder_below ct_ladder_below), sl_ladder_below⟩)
    (c_ladder_below : PySem.W.codeIn K cd_ladder_below "Ladder.below" = true)
    (k_ladder_below : PySem.W.keepIn K (.ref f_ladder_below) = true)
    (a_ladder_above : PySem.W.findIn K (.ref c_Ladder) "above" = some (some (.ref f_ladder_above)))
    (l_ladder_above : K.lookup f_ladder_above = some ⟨oc_ladder_above, od_ladder_above, .func (PySem.W.fnOf "above" "Ladder.above" (defArgs s_ladder_above) (defBody s_ladder_above) (defScope s_ladder_above) .none kV_ladder_above dc_ladder_above pm_ladder_above an_ladder_above cd_ladder_above ct_ladder_above), sl_ladder_above⟩)
    (c_ladder_above : PySem.W.codeIn K cd_ladder_above "Ladder.above" = true)
    (k_ladder_above : PySem.W.keepIn K (.ref f_ladder_above) = true)
    (a_ladder_place : PySem.W.findIn K (.ref c_Ladder) "place" = some (some (.ref f_ladder_place)))
    (l_ladder_place : K.lookup f_ladder_place = some ⟨oc_ladder_place, od_ladder_place, .func (PySem.W.fnOf "place" "Ladder.place" (defArgs s_ladder_place) (defBody s_ladder_place) (defScope s_ladder_place) .none kV_ladder_place dc_ladder_place pm_ladder_place an_ladder_place cd_ladder_place ct_ladder_place), sl_ladder_place⟩)
    (c_ladder_place : PySem.W.codeIn K cd_ladder_place "Ladder.place" = true)
    (k_ladder_place : PySem.W.keepIn K (.ref f_ladder_place) = true)
    (a_ladder_at : PySem.W.findIn K (.ref c_Ladder) "at" = some (some (.ref f_ladder_at)))
    (l_ladder_at : K.lookup f_ladder_at = some ⟨oc_ladder_at, od_ladder_at, .func (PySem.W.fnOf "at" "Ladder.at" (defArgs s_ladder_at) (defBody s_ladder_at) (defScope s_ladder_at) .none kV_ladder_at dc_ladder_at pm_ladder_at an_ladder_at cd_ladder_at ct_ladder_at), sl_ladder_at⟩)
    (c_ladder_at : PySem.W.codeIn K cd_ladder_at "Ladder.at" = true)
    (k_ladder_at : PySem.W.keepIn K (.ref f_ladder_at) = true)
    (a_ladder_way : PySem.W.findIn K (.ref c_Ladder) "way" = some (some (.ref f_ladder_way)))
    (l_ladder_way : K.lookup f_ladder_way = some ⟨oc_ladder_way, od_ladder_way, .func (PySem.W.fnOf "way" "Ladder.way" (defArgs s_ladder_way) (defBody s_ladder_way) (defScope s_ladder_way) .none kV_ladder_way dc_ladder_way pm_ladder_way an_ladder_way cd_ladder_way ct_ladder_way), sl_ladder_way⟩)
    (c_ladder_way : PySem.W.codeIn K cd_ladder_way "Ladder.way" = true)
    (k_ladder_way : PySem.W.keepIn K (.ref f_ladder_way) = true)
    (a_ladder_stretch : PySem.W.findIn K (.ref c_Ladder) "stretch" = some (some (.ref f_ladder_stretch)))
    (l_ladder_stretch : K.lookup f_ladder_stretch = some ⟨oc_ladder_stretch, od_ladder_stretch, .func (PySem.W.fnOf "stretch" "Ladder.stretch" (defArgs s_ladder_stretch) (defBody s_ladder_stretch) (defScope s_ladder_stretch) .none kV_ladder_stretch dc_ladder_stretch pm_ladder_stretch an_ladder_stretch cd_ladder_stretch ct_ladder_stretch), sl_ladder_stretch⟩)
    (c_ladder_stretch : PySem.W.codeIn K cd_ladder_stretch "Ladder.stretch" = true)
    (k_ladder_stretch : PySem.W.keepIn K (.ref f_ladder_stretch) = true)
    (a_ladder_counted : PySem.W.findIn K (.ref c_Ladder) "counted" = some (some (.ref f_ladder_counted)))
    (l_ladder_counted : K.lookup f_ladder_counted = some ⟨oc_ladder_counted, od_ladder_counted, .func (PySem.W.fnOf "counted" "Ladder.counted" (defArgs s_ladder_counted) (defBody s_ladder_counted) (defScope s_ladder_counted) .none kV_ladder_counted dc_ladder_counted pm_ladder_counted an_ladder_counted cd_ladder_counted ct_ladder_counted), sl_ladder_counted⟩)
    (c_ladder_counted : PySem.W.codeIn K cd_ladder_counted "Ladder.counted" = true)
    (k_ladder_counted : PySem.W.keepIn K (.ref f_ladder_counted) = true)
    (a_ladder_check_number : PySem.W.findIn K (.ref c_Ladder) "_check_number" = some (some (.ref f_ladder_check_number)))
    (l_ladder_check_number : K.lookup f_ladder_check_number = some ⟨oc_ladder_check_number, od_ladder_check_number, .func (PySem.W.fnOf "_check_number" "Ladder._check_number" (defArgs s_ladder_check_number) (defBody s_ladder_check_number) (defScope s_ladder_check_number) .none kV_ladder_check_number dc_ladder_check_number pm_ladder_check_number an_ladder_check_number cd_ladder_check_number ct_ladder_check_number), sl_ladder_check_number⟩)
    (c_ladder_check_number : PySem.W.codeIn K cd_ladder_check_number "Ladder._check_number" = true)
    (k_ladder_check_number : PySem.W.keepIn K (.ref f_ladder_check_number) = true)
    (a_ladder_check_end : PySem.W.findIn K (.ref c_Ladder) "_check_end" = some (some (.ref f_ladder_check_end)))
    (l_ladder_check_end : K.lookup f_ladder_check_end = some ⟨oc_ladder_check_end, od_ladder_check_end, .func (PySem.W.fnOf "_check_end" "Ladder._check_end" (defArgs s_ladder_check_end) (defBody s_ladder_check_end) (defScope s_ladder_check_end) .none kV_ladder_check_end dc_ladder_check_end pm_ladder_check_end an_ladder_check_end cd_ladder_check_end ct_ladder_check_end), sl_ladder_check_end⟩)
    (c_ladder_check_end : PySem.W.codeIn K cd_ladder_check_end "Ladder._check_end" = true)
    (k_ladder_check_end : PySem.W.keepIn K (.ref f_ladder_check_end) = true)
    (a_ladder_check_level : PySem.W.findIn K (.ref c_Ladder) "_check_level" = some (some (.ref f_ladder_check_level)))
    (l_ladder_check_level : K.lookup f_ladder_check_level = some ⟨oc_ladder_check_level, od_ladder_check_level, .func (PySem.W.fnOf "_check_level" "Ladder._check_level" (defArgs s_ladder_check_level) (defBody s_ladder_check_level) (defScope s_ladder_check_level) .none kV_ladder_check_level dc_ladder_check_level pm_ladder_check_level an_ladder_check_level cd_ladder_check_level ct_ladder_check_level), sl_ladder_check_level⟩)
    (c_ladder_check_level : PySem.W.codeIn K cd_ladder_check_level "Ladder._check_level" = true)
    (k_ladder_check_level : PySem.W.keepIn K (.ref f_ladder_check_level) = true)
    (a_ladder_check_place : PySem.W.findIn K (.ref c_Ladder) "_check_place" = some (some (.ref f_ladder_check_place)))
    (l_ladder_check_place : K.lookup f_ladder_check_place = some ⟨oc_ladder_check_place, od_ladder_check_place, .func (PySem.W.fnOf "_check_place" "Ladder._check_place" (defArgs s_ladder_check_place) (defBody s_ladder_check_place) (defScope s_ladder_check_place) .none kV_ladder_check_place dc_ladder_check_place pm_ladder_check_place an_ladder_check_place cd_ladder_check_place ct_ladder_check_place), sl_ladder_check_place⟩)
    (c_ladder_check_place : PySem.W.codeIn K cd_ladder_check_place "Ladder._check_place" = true)
    (k_ladder_check_place : PySem.W.keepIn K (.ref f_ladder_check_place) = true)
    (a_ladder_spot : PySem.W.findIn K (.ref c_Ladder) "_spot" = some (some (.ref f_ladder_spot)))
    (l_ladder_spot : K.lookup f_ladder_spot = some ⟨oc_ladder_spot, od_ladder_spot, .func (PySem.W.fnOf "_spot" "Ladder._spot" (defArgs s_ladder_spot) (defBody s_ladder_spot) (defScope s_ladder_spot) .none kV_ladder_spot dc_ladder_spot pm_ladder_spot an_ladder_spot cd_ladder_spot ct_ladder_spot), sl_ladder_spot⟩)
    (c_ladder_spot : PySem.W.codeIn K cd_ladder_spot "Ladder._spot" = true)
    (k_ladder_spot : PySem.W.keepIn K (.ref f_ladder_spot) = true)
    (a_ladder_at_or_none : PySem.W.findIn K (.ref c_Ladder) "_at_or_none" = some (some (.ref f_ladder_at_or_none)))
    (l_ladder_at_or_none : K.lookup f_ladder_at_or_none = some ⟨oc_ladder_at_or_none, od_ladder_at_or_none, .func (PySem.W.fnOf "_at_or_none" "Ladder._at_or_none" (defArgs s_ladder_at_or_none) (defBody s_ladder_at_or_none) (defScope s_ladder_at_or_none) .none kV_ladder_at_or_none dc_ladder_at_or_none pm_ladder_at_or_none an_ladder_at_or_none cd_ladder_at_or_none ct_ladder_at_or_none), sl_ladder_at_or_none⟩)
    (c_ladder_at_or_none : PySem.W.codeIn K cd_ladder_at_or_none "Ladder._at_or_none" = true)
    (k_ladder_at_or_none : PySem.W.keepIn K (.ref f_ladder_at_or_none) = true)
    (a_ladder_before : PySem.W.findIn K (.ref c_Ladder) "_before" = some (some (.ref f_ladder_before)))
    (l_ladder_before : K.lookup f_ladder_before = some ⟨oc_ladder_before, od_ladder_before, .func (PySem.W.fnOf "_before" "Ladder._before" (defArgs s_ladder_before) (defBody s_ladder_before) (defScope s_ladder_before) .none kV_ladder_before dc_ladder_before pm_ladder_before an_ladder_before cd_ladder_before ct_ladder_before), sl_ladder_before⟩)
    (c_ladder_before : PySem.W.codeIn K cd_ladder_before "Ladder._before" = true)
    (k_ladder_before : PySem.W.keepIn K (.ref f_ladder_before) = true)
    (a_ladder_begin : PySem.W.findIn K (.ref c_Ladder) "_begin" = some (some (.ref f_ladder_begin)))
    (l_ladder_begin : K.lookup f_ladder_begin = some ⟨oc_ladder_begin, od_ladder_begin, .func (PySem.W.fnOf "_begin" "Ladder._begin" (defArgs s_ladder_begin) (defBody s_ladder_begin) (defScope s_ladder_begin) .none kV_ladder_begin dc_ladder_begin pm_ladder_begin an_ladder_begin cd_ladder_begin ct_ladder_begin), sl_ladder_begin⟩)
    (c_ladder_begin : PySem.W.codeIn K cd_ladder_begin "Ladder._begin" = true)
    (k_ladder_begin : PySem.W.keepIn K (.ref f_ladder_begin) = true)
    (a_ladder_reach : PySem.W.findIn K (.ref c_Ladder) "_reach" = some (some (.ref f_ladder_reach)))
    (l_ladder_reach : K.lookup f_ladder_reach = some ⟨oc_ladder_reach, od_ladder_reach, .func (PySem.W.fnOf "_reach" "Ladder._reach" (defArgs s_ladder_reach) (defBody s_ladder_reach) (defScope s_ladder_reach) .none kV_ladder_reach dc_ladder_reach pm_ladder_reach an_ladder_reach cd_ladder_reach ct_ladder_reach), sl_ladder_reach⟩)
    (c_ladder_reach : PySem.W.codeIn K cd_ladder_reach "Ladder._reach" = true)
    (k_ladder_reach : PySem.W.keepIn K (.ref f_ladder_reach) = true)
    (a_ladder_heirs : PySem.W.findIn K (.ref c_Ladder) "_heirs" = some (some (.ref f_ladder_heirs)))
    (l_ladder_heirs : K.lookup f_ladder_heirs = some ⟨oc_ladder_heirs, od_ladder_heirs, .func (PySem.W.fnOf "_heirs" "Ladder._heirs" (defArgs s_ladder_heirs) (defBody s_ladder_heirs) (defScope s_ladder_heirs) .none kV_ladder_heirs dc_ladder_heirs pm_ladder_heirs an_ladder_heirs cd_ladder_heirs ct_ladder_heirs), sl_ladder_heirs⟩)
    (c_ladder_heirs : PySem.W.codeIn K cd_ladder_heirs "Ladder._heirs" = true)
    (k_ladder_heirs : PySem.W.keepIn K (.ref f_ladder_heirs) = true)
    (a_ladder_walk : PySem.W.findIn K (.ref c_Ladder) "_walk" = some (some (.ref f_ladder_walk)))
    (l_ladder_walk : K.lookup f_ladder_walk = some ⟨oc_ladder_walk, od_ladder_walk, .func (PySem.W.fnOf "_walk" "Ladder._walk" (defArgs s_ladder_walk) (defBody s_ladder_walk) (defScope s_ladder_walk) .none kV_ladder_walk dc_ladder_walk pm_ladder_walk an_ladder_walk cd_ladder_walk ct_ladder_walk), sl_ladder_walk⟩)
    (c_ladder_walk : PySem.W.codeIn K cd_ladder_walk "Ladder._walk" = true)
    (k_ladder_walk : PySem.W.keepIn K (.ref f_ladder_walk) = true)
    (a_l_whole : PySem.W.nsIn K mainGlobals "_law_whole" = some (some (.ref f_l_whole)))
    (l_l_whole : K.lookup f_l_whole = some ⟨oc_l_whole, od_l_whole, .func (PySem.W.fnOf "_law_whole" "_law_whole" (defArgs s_l_whole) (defBody s_l_whole) (defScope s_l_whole) .none kV_l_whole dc_l_whole pm_l_whole an_l_whole cd_l_whole ct_l_whole), sl_l_whole⟩)
    (c_l_whole : PySem.W.codeIn K cd_l_whole "_law_whole" = true)
    (k_l_whole : PySem.W.keepIn K (.ref f_l_whole) = true)
    (a_l_cell_at : PySem.W.nsIn K mainGlobals "_law_cell_at" = some (some (.ref f_l_cell_at)))
    (l_l_cell_at : K.lookup f_l_cell_at = some ⟨oc_l_cell_at, od_l_cell_at, .func (PySem.W.fnOf "_law_cell_at" "_law_cell_at" (defArgs s_l_cell_at) (defBody s_l_cell_at) (defScope s_l_cell_at) .none kV_l_cell_at dc_l_cell_at pm_l_cell_at an_l_cell_at cd_l_cell_at ct_l_cell_at), sl_l_cell_at⟩)
    (c_l_cell_at : PySem.W.codeIn K cd_l_cell_at "_law_cell_at" = true)
    (k_l_cell_at : PySem.W.keepIn K (.ref f_l_cell_at) = true)
    (a_l_number : PySem.W.nsIn K mainGlobals "_law_number" = some (some (.ref f_l_number)))
    (l_l_number : K.lookup f_l_number = some ⟨oc_l_number, od_l_number, .func (PySem.W.fnOf "_law_number" "_law_number" (defArgs s_l_number) (defBody s_l_number) (defScope s_l_number) .none kV_l_number dc_l_number pm_l_number an_l_number cd_l_number ct_l_number), sl_l_number⟩)
    (c_l_number : PySem.W.codeIn K cd_l_number "_law_number" = true)
    (k_l_number : PySem.W.keepIn K (.ref f_l_number) = true)
    (a_l_deed : PySem.W.nsIn K mainGlobals "_law_deed" = some (some (.ref f_l_deed)))
    (l_l_deed : K.lookup f_l_deed = some ⟨oc_l_deed, od_l_deed, .func (PySem.W.fnOf "_law_deed" "_law_deed" (defArgs s_l_deed) (defBody s_l_deed) (defScope s_l_deed) .none kV_l_deed dc_l_deed pm_l_deed an_l_deed cd_l_deed ct_l_deed), sl_l_deed⟩)
    (c_l_deed : PySem.W.codeIn K cd_l_deed "_law_deed" = true)
    (k_l_deed : PySem.W.keepIn K (.ref f_l_deed) = true)
    (a_l_missing : PySem.W.nsIn K mainGlobals "_law_missing" = some (some (.ref f_l_missing)))
    (l_l_missing : K.lookup f_l_missing = some ⟨oc_l_missing, od_l_missing, .func (PySem.W.fnOf "_law_missing" "_law_missing" (defArgs s_l_missing) (defBody s_l_missing) (defScope s_l_missing) .none kV_l_missing dc_l_missing pm_l_missing an_l_missing cd_l_missing ct_l_missing), sl_l_missing⟩)
    (c_l_missing : PySem.W.codeIn K cd_l_missing "_law_missing" = true)
    (k_l_missing : PySem.W.keepIn K (.ref f_l_missing) = true)
    (a_l_no_place : PySem.W.nsIn K mainGlobals "_law_no_place" = some (some (.ref f_l_no_place)))
    (l_l_no_place : K.lookup f_l_no_place = some ⟨oc_l_no_place, od_l_no_place, .func (PySem.W.fnOf "_law_no_place" "_law_no_place" (defArgs s_l_no_place) (defBody s_l_no_place) (defScope s_l_no_place) .none kV_l_no_place dc_l_no_place pm_l_no_place an_l_no_place cd_l_no_place ct_l_no_place), sl_l_no_place⟩)
    (c_l_no_place : PySem.W.codeIn K cd_l_no_place "_law_no_place" = true)
    (k_l_no_place : PySem.W.keepIn K (.ref f_l_no_place) = true)
    (a_l_gap : PySem.W.nsIn K mainGlobals "_law_gap" = some (some (.ref f_l_gap)))
    (l_l_gap : K.lookup f_l_gap = some ⟨oc_l_gap, od_l_gap, .func (PySem.W.fnOf "_law_gap" "_law_gap" (defArgs s_l_gap) (defBody s_l_gap) (defScope s_l_gap) .none kV_l_gap dc_l_gap pm_l_gap an_l_gap cd_l_gap ct_l_gap), sl_l_gap⟩)
    (c_l_gap : PySem.W.codeIn K cd_l_gap "_law_gap" = true)
    (k_l_gap : PySem.W.keepIn K (.ref f_l_gap) = true)
    (a_l_way : PySem.W.nsIn K mainGlobals "_law_way" = some (some (.ref f_l_way)))
    (l_l_way : K.lookup f_l_way = some ⟨oc_l_way, od_l_way, .func (PySem.W.fnOf "_law_way" "_law_way" (defArgs s_l_way) (defBody s_l_way) (defScope s_l_way) .none kV_l_way dc_l_way pm_l_way an_l_way cd_l_way ct_l_way), sl_l_way⟩)
    (c_l_way : PySem.W.codeIn K cd_l_way "_law_way" = true)
    (k_l_way : PySem.W.keepIn K (.ref f_l_way) = true)
    (a_l_stretch : PySem.W.nsIn K mainGlobals "_law_stretch" = some (some (.ref f_l_stretch)))
    (l_l_stretch : K.lookup f_l_stretch = some ⟨oc_l_stretch, od_l_stretch, .func (PySem.W.fnOf "_law_stretch" "_law_stretch" (defArgs s_l_stretch) (defBody s_l_stretch) (defScope s_l_stretch) .none kV_l_stretch dc_l_stretch pm_l_stretch an_l_stretch cd_l_stretch ct_l_stretch), sl_l_stretch⟩)
    (c_l_stretch : PySem.W.codeIn K cd_l_stretch "_law_stretch" = true)
    (k_l_stretch : PySem.W.keepIn K (.ref f_l_stretch) = true)
    (a_l_refused : PySem.W.nsIn K mainGlobals "_law_refused" = some (some (.ref f_l_refused)))
    (l_l_refused : K.lookup f_l_refused = some ⟨oc_l_refused, od_l_refused, .func (PySem.W.fnOf "_law_refused" "_law_refused" (defArgs s_l_refused) (defBody s_l_refused) (defScope s_l_refused) .none kV_l_refused dc_l_refused pm_l_refused an_l_refused cd_l_refused ct_l_refused), sl_l_refused⟩)
    (c_l_refused : PySem.W.codeIn K cd_l_refused "_law_refused" = true)
    (k_l_refused : PySem.W.keepIn K (.ref f_l_refused) = true)
    (a_l_filled : PySem.W.nsIn K mainGlobals "_law_filled" = some (some (.ref f_l_filled)))
    (l_l_filled : K.lookup f_l_filled = some ⟨oc_l_filled, od_l_filled, .func (PySem.W.fnOf "_law_filled" "_law_filled" (defArgs s_l_filled) (defBody s_l_filled) (defScope s_l_filled) .none kV_l_filled dc_l_filled pm_l_filled an_l_filled cd_l_filled ct_l_filled), sl_l_filled⟩)
    (c_l_filled : PySem.W.codeIn K cd_l_filled "_law_filled" = true)
    (k_l_filled : PySem.W.keepIn K (.ref f_l_filled) = true)
    (a_law : PySem.W.nsIn K mainGlobals "law" = some (some (.ref f_law)))
    (l_law : K.lookup f_law = some ⟨oc_law, od_law, .func (PySem.W.fnOf "law" "law" (defArgs s_law) (defBody s_law) (defScope s_law) .none kV_law dc_law pm_law an_law cd_law ct_law), sl_law⟩)
    (c_law : PySem.W.codeIn K cd_law "law" = true)
    (k_law : PySem.W.keepIn K (.ref f_law) = true)
    (z_all : PySem.W.nsIn K mainGlobals "all" = some none)
    (z_bool : PySem.W.nsIn K mainGlobals "bool" = some none)
    (z_enumerate : PySem.W.nsIn K mainGlobals "enumerate" = some none)
    (z_int : PySem.W.nsIn K mainGlobals "int" = some none)
    (z_isinstance : PySem.W.nsIn K mainGlobals "isinstance" = some none)
    (z_len : PySem.W.nsIn K mainGlobals "len" = some none)
    (z_list : PySem.W.nsIn K mainGlobals "list" = some none)
    (z_min : PySem.W.nsIn K mainGlobals "min" = some none)
    (z_range : PySem.W.nsIn K mainGlobals "range" = some none)
    (z_sorted : PySem.W.nsIn K mainGlobals "sorted" = some none)
    (z_tuple : PySem.W.nsIn K mainGlobals "tuple" = some none)
    (pg_Ladder : PySem.W.plainGet K c_Ladder Str.empty = true)
    (hd_Ladder : PySem.W.hasDictIn K c_Ladder = true)
    (po_Ladder : PySem.W.plainOver K c_Ladder = true)
    (sa_Ladder : PySem.W.findIn K (.ref c_Ladder) "__setattr__" = some (some (.builtin "object.__setattr__")))
    (ma_Ladder : PySem.W.makesIn K c_Ladder = true)
    (kc_Ladder : PySem.W.keepIn K (.ref c_Ladder) = true)
    (i_ladder_init : PySem.W.isFn K (.ref f_ladder_init) = true)
    (i_ladder_put : PySem.W.isFn K (.ref f_ladder_put) = true)
    (i_ladder_take : PySem.W.isFn K (.ref f_ladder_take) = true)
    (i_ladder_has : PySem.W.isFn K (.ref f_ladder_has) = true)
    (i_ladder_row : PySem.W.isFn K (.ref f_ladder_row) = true)
    (i_ladder_level : PySem.W.isFn K (.ref f_ladder_level) = true)
    (i_ladder_ahead : PySem.W.isFn K (.ref f_ladder_ahead) = true)
    (i_ladder_trail : PySem.W.isFn K (.ref f_ladder_trail) = true)
    (i_ladder_below : PySem.W.isFn K (.ref f_ladder_below) = true)
    (i_ladder_above : PySem.W.isFn K (.ref f_ladder_above) = true)
    (i_ladder_place : PySem.W.isFn K (.ref f_ladder_place) = true)
    (i_ladder_at : PySem.W.isFn K (.ref f_ladder_at) = true)
    (i_ladder_way : PySem.W.isFn K (.ref f_ladder_way) = true)
    (i_ladder_stretch : PySem.W.isFn K (.ref f_ladder_stretch) = true)
    (i_ladder_counted : PySem.W.isFn K (.ref f_ladder_counted) = true)
    (i_ladder_check_number : PySem.W.isFn K (.ref f_ladder_check_number) = true)
    (i_ladder_check_end : PySem.W.isFn K (.ref f_ladder_check_end) = true)
    (i_ladder_check_level : PySem.W.isFn K (.ref f_ladder_check_level) = true)
    (i_ladder_check_place : PySem.W.isFn K (.ref f_ladder_check_place) = true)
    (i_ladder_spot : PySem.W.isFn K (.ref f_ladder_spot) = true)
    (i_ladder_at_or_none : PySem.W.isFn K (.ref f_ladder_at_or_none) = true)
    (i_ladder_before : PySem.W.isFn K (.ref f_ladder_before) = true)
    (i_ladder_begin : PySem.W.isFn K (.ref f_ladder_begin) = true)
    (i_ladder_reach : PySem.W.isFn K (.ref f_ladder_reach) = true)
    (i_ladder_heirs : PySem.W.isFn K (.ref f_ladder_heirs) = true)
    (i_ladder_walk : PySem.W.isFn K (.ref f_ladder_walk) = true)
    (n_Ladder_width : PySem.W.findIn K (.ref c_Ladder) "width" = some none)
    (n_Ladder_high : PySem.W.findIn K (.ref c_Ladder) "high" = some none)
    (n_Ladder_limit : PySem.W.findIn K (.ref c_Ladder) "limit" = some none)
    (n_Ladder_many : PySem.W.findIn K (.ref c_Ladder) "many" = some none)
    (n_Ladder__row : PySem.W.findIn K (.ref c_Ladder) "_row" = some none)
    (xp_BadSize : PySem.W.excIn K c_BadSize [.type "ValueError", .type "Exception", .type "BaseException", .type "object"] "ValueError.__new__" = true)
    (kp_BadSize : PySem.W.keepIn K (.ref c_BadSize) = true)
    (bp_BadSize : PySem.W.subIn K (.ref c_BadSize) (.type "BaseException") = some true)
    (tp_BadSize : PySem.W.typeIn K (.ref c_BadSize) = some (.type "type"))
    (xp_OutOfRange : PySem.W.excIn K c_OutOfRange [.type "ValueError", .type "Exception", .type "BaseException", .type "object"] "ValueError.__new__" = true)
    (kp_OutOfRange : PySem.W.keepIn K (.ref c_OutOfRange) = true)
    (bp_OutOfRange : PySem.W.subIn K (.ref c_OutOfRange) (.type "BaseException") = some true)
    (tp_OutOfRange : PySem.W.typeIn K (.ref c_OutOfRange) = some (.type "type"))
    (xp_Present : PySem.W.excIn K c_Present [.type "ValueError", .type "Exception", .type "BaseException", .type "object"] "ValueError.__new__" = true)
    (kp_Present : PySem.W.keepIn K (.ref c_Present) = true)
    (bp_Present : PySem.W.subIn K (.ref c_Present) (.type "BaseException") = some true)
    (tp_Present : PySem.W.typeIn K (.ref c_Present) = some (.type "type"))
    (xp_Missing : PySem.W.excIn K c_Missing [.type "ValueError", .type "Exception", .type "BaseException", .type "object"] "ValueError.__new__" = true)
    (kp_Missing : PySem.W.keepIn K (.ref c_Missing) = true)
    (bp_Missing : PySem.W.subIn K (.ref c_Missing) (.type "BaseException") = some true)
    (tp_Missing : PySem.W.typeIn K (.ref c_Missing) = some (.type "type"))
    (xp_NoLevel : PySem.W.excIn K c_NoLevel [.type "ValueError", .type "Exception", .type "BaseException", .type "object"] "ValueError.__new__" = true)
    (kp_NoLevel : PySem.W.keepIn K (.ref c_NoLevel) = true)
    (bp_NoLevel : PySem.W.subIn K (.ref c_NoLevel) (.type "BaseException") = some true)
    (tp_NoLevel : PySem.W.typeIn K (.ref c_NoLevel) = some (.type "type"))
    (xp_NoPlace : PySem.W.excIn K c_NoPlace [.type "ValueError", .type "Exception", .type "BaseException", .type "object"] "ValueError.__new__" = true)
    (kp_NoPlace : PySem.W.keepIn K (.ref c_NoPlace) = true)
    (bp_NoPlace : PySem.W.subIn K (.ref c_NoPlace) (.type "BaseException") = some true)
    (tp_NoPlace : PySem.W.typeIn K (.ref c_NoPlace) = some (.type "type"))
    (exm_BadSize_Missing : PySem.W.exmOne K (.ref c_BadSize) (.ref c_Missing) = some false)
    (exm_BadSize_NoPlace : PySem.W.exmOne K (.ref c_BadSize) (.ref c_NoPlace) = some false)
    (exm_BadSize_OutOfRange : PySem.W.exmOne K (.ref c_BadSize) (.ref c_OutOfRange) = some false)
    (exm_OutOfRange_Missing : PySem.W.exmOne K (.ref c_OutOfRange) (.ref c_Missing) = some false)
    (exm_OutOfRange_NoPlace : PySem.W.exmOne K (.ref c_OutOfRange) (.ref c_NoPlace) = some false)
    (exm_OutOfRange_OutOfRange : PySem.W.exmOne K (.ref c_OutOfRange) (.ref c_OutOfRange) = some true)
    (exm_Present_Missing : PySem.W.exmOne K (.ref c_Present) (.ref c_Missing) = some false)
    (exm_Present_NoPlace : PySem.W.exmOne K (.ref c_Present) (.ref c_NoPlace) = some false)
    (exm_Present_OutOfRange : PySem.W.exmOne K (.ref c_Present) (.ref c_OutOfRange) = some false)
    (exm_Missing_Missing : PySem.W.exmOne K (.ref c_Missing) (.ref c_Missing) = some true)
    (exm_Missing_NoPlace : PySem.W.exmOne K (.ref c_Missing) (.ref c_NoPlace) = some false)
    (exm_Missing_OutOfRange : PySem.W.exmOne K (.ref c_Missing) (.ref c_OutOfRange) = some false)
    (exm_NoLevel_Missing : PySem.W.exmOne K (.ref c_NoLevel) (.ref c_Missing) = some false)
    (exm_NoLevel_NoPlace : PySem.W.exmOne K (.ref c_NoLevel) (.ref c_NoPlace) = some false)
    (exm_NoLevel_OutOfRange : PySem.W.exmOne K (.ref c_NoLevel) (.ref c_OutOfRange) = some false)
    (exm_NoPlace_Missing : PySem.W.exmOne K (.ref c_NoPlace) (.ref c_Missing) = some false)
    (exm_NoPlace_NoPlace : PySem.W.exmOne K (.ref c_NoPlace) (.ref c_NoPlace) = some true)
    (exm_NoPlace_OutOfRange : PySem.W.exmOne K (.ref c_NoPlace) (.ref c_OutOfRange) = some false)
    : ∃ fd : FuncData, (∀ (s : Shared) (v : Value), BindsTo s fd ⟨[v], []⟩ [("_law_script", v)]) ∧ ∀ base : Heap, K.In base → base.Ns mainGlobals mg → FnOk l.prog w K mg base CX0 23 fa fd ["_law_script"] (sp_law K) := by
  have e := hfa.symm.trans (PySem.W.mg_of X G a_law)
  cases e
  have F_power := fun_mk (st := s_power) l_power c_power k_power
  have bd_power := F_power.binds (ps := ["width", "level"]) fun _ _ _ _ _ _ us hl => match us, hl with | [_, _], _ => rfl
  have F_block := fun_mk (st := s_block) l_block c_block k_block
  have bd_block := F_block.binds (ps := ["width", "level", "number"]) fun _ _ _ _ _ _ us hl => match us, hl with | [_, _, _], _ => rfl
  have F_thinned := fun_mk (st := s_thinned) l_thinned c_thinned k_thinned
  have bd_thinned := F_thinned.binds (ps := ["width", "level", "row"]) fun _ _ _ _ _ _ us hl => match us, hl with | [_, _, _], _ => rfl
  have F_tall := fun_mk (st := s_tall) l_tall c_tall k_tall
  have bd_tall := F_tall.binds (ps := ["width", "high", "before", "number"]) fun _ _ _ _ _ _ us hl => match us, hl with | [_, _, _, _], _ => rfl
  have F_ladder_init := fun_mk (st := s_ladder_init) l_ladder_init c_ladder_init k_ladder_init
  have bd_ladder_init := F_ladder_init.binds (ps := ["self", "width", "high"]) fun _ _ _ _ _ _ us hl => match us, hl with | [_, _, _], _ => rfl
  have F_ladder_put := fun_mk (st := s_ladder_put) l_ladder_put c_ladder_put k_ladder_put
  have bd_ladder_put := F_ladder_put.binds (ps := ["self", "number"]) fun _ _ _ _ _ _ us hl => match us, hl with | [_, _], _ => rfl
  have F_ladder_take := fun_mk (st := s_ladder_take) l_ladder_take c_ladder_take k_ladder_take
  have bd_ladder_take := F_ladder_take.binds (ps := ["self", "number"]) fun _ _ _ _ _ _ us hl => match us, hl with | [_, _], _ => rfl
  have F_ladder_has := fun_mk (st := s_ladder_has) l_ladder_has c_ladder_has k_ladder_has
  have bd_ladder_has := F_ladder_has.binds (ps := ["self", "number"]) fun _ _ _ _ _ _ us hl => match us, hl with | [_, _], _ => rfl
  have F_ladder_row := fun_mk (st := s_ladder_row) l_ladder_row c_ladder_row k_ladder_row
  have bd_ladder_row := F_ladder_row.binds (ps := ["self"]) fun _ _ _ _ _ _ us hl => match us, hl with | [_], _ => rfl
  have F_ladder_level := fun_mk (st := s_ladder_level) l_ladder_level c_ladder_level k_ladder_level
  have bd_ladder_level := F_ladder_level.binds (ps := ["self", "level"]) fun _ _ _ _ _ _ us hl => match us, hl with | [_, _], _ => rfl
  have F_ladder_ahead := fun_mk (st := s_ladder_ahead) l_ladder_ahead c_ladder_ahead k_ladder_ahead
  have bd_ladder_ahead := F_ladder_ahead.binds (ps := ["self", "level", "number"]) fun _ _ _ _ _ _ us hl => match us, hl with | [_, _, _], _ => rfl
  have F_ladder_trail := fun_mk (st := s_ladder_trail) l_ladder_trail c_ladder_trail k_ladder_trail
  have bd_ladder_trail := F_ladder_trail.binds (ps := ["self", "number"]) fun _ _ _ _ _ _ us hl => match us, hl with | [_, _], _ => rfl
  have F_ladder_below := fun_mk (st := s_ladder_below) l_ladder_below c_ladder_below k_ladder_below
  have bd_ladder_below := F_ladder_below.binds (ps := ["self", "number"]) fun _ _ _ _ _ _ us hl => match us, hl with | [_, _], _ => rfl
  have F_ladder_above := fun_mk (st := s_ladder_above) l_ladder_above c_ladder_above k_ladder_above
  have bd_ladder_above := F_ladder_above.binds (ps := ["self", "number"]) fun _ _ _ _ _ _ us hl => match us, hl with | [_, _], _ => rfl
  have F_ladder_place := fun_mk (st := s_ladder_place) l_ladder_place c_ladder_place k_ladder_place
  have bd_ladder_place := F_ladder_place.binds (ps := ["self", "number"]) fun _ _ _ _ _ _ us hl => match us, hl with | [_, _], _ => rfl
  have F_ladder_at := fun_mk (st := s_ladder_at) l_ladder_at c_ladder_at k_ladder_at
  have bd_ladder_at := F_ladder_at.binds (ps := ["self", "place"]) fun _ _ _ _ _ _ us hl => match us, hl with | [_, _], _ => rfl
  have F_ladder_way := fun_mk (st := s_ladder_way) l_ladder_way c_ladder_way k_ladder_way
  have bd_ladder_way := F_ladder_way.binds (ps := ["self", "place"]) fun _ _ _ _ _ _ us hl => match us, hl with | [_, _], _ => rfl
  have F_ladder_stretch := fun_mk (st := s_ladder_stretch) l_ladder_stretch c_ladder_stretch k_ladder_stretch
  have bd_ladder_stretch := F_ladder_stretch.binds (ps := ["self", "low", "high"]) fun _ _ _ _ _ _ us hl => match us, hl with | [_, _, _], _ => rfl
  have F_ladder_counted := fun_mk (st := s_ladder_counted) l_ladder_counted c_ladder_counted k_ladder_counted
  have bd_ladder_counted := F_ladder_counted.binds (ps := ["self", "low", "high"]) fun _ _ _ _ _ _ us hl => match us, hl with | [_, _, _], _ => rfl
  have F_ladder_check_number := fun_mk (st := s_ladder_check_number) l_ladder_check_number c_ladder_check_number k_ladder_check_number
  have bd_ladder_check_number := F_ladder_check_number.binds (ps := ["self", "number"]) fun _ _ _ _ _ _ us hl => match us, hl with | [_, _], _ => rfl
  have F_ladder_check_end := fun_mk (st := s_ladder_check_end) l_ladder_check_end c_ladder_check_end k_ladder_check_end
  have bd_ladder_check_end := F_ladder_check_end.binds (ps := ["self", "number"]) fun _ _ _ _ _ _ us hl => match us, hl with | [_, _], _ => rfl
  have F_ladder_check_level := fun_mk (st := s_ladder_check_level) l_ladder_check_level c_ladder_check_level k_ladder_check_level
  have bd_ladder_check_level := F_ladder_check_level.binds (ps := ["self", "level"]) fun _ _ _ _ _ _ us hl => match us, hl with | [_, _], _ => rfl
  have F_ladder_check_place := fun_mk (st := s_ladder_check_place) l_ladder_check_place c_ladder_check_place k_ladder_check_place
  have bd_ladder_check_place := F_ladder_check_place.binds (ps := ["self", "place"]) fun _ _ _ _ _ _ us hl => match us, hl with | [_, _], _ => rfl
  have F_ladder_spot := fun_mk (st := s_ladder_spot) l_ladder_spot c_ladder_spot k_ladder_spot
  have bd_ladder_spot := F_ladder_spot.binds (ps := ["self", "number"]) fun _ _ _ _ _ _ us hl => match us, hl with | [_, _], _ => rfl
  have F_ladder_at_or_none := fun_mk (st := s_ladder_at_or_none) l_ladder_at_or_none c_ladder_at_or_none k_ladder_at_or_none
  have bd_ladder_at_or_none := F_ladder_at_or_none.binds (ps := ["self", "spot"]) fun _ _ _ _ _ _ us hl => match us, hl with | [_, _], _ => rfl
  have F_ladder_before := fun_mk (st := s_ladder_before) l_ladder_before c_ladder_before k_ladder_before
  have bd_ladder_before := F_ladder_before.binds (ps := ["self", "spot"]) fun _ _ _ _ _ _ us hl => match us, hl with | [_, _], _ => rfl
  have F_ladder_begin := fun_mk (st := s_ladder_begin) l_ladder_begin c_ladder_begin k_ladder_begin
  have bd_ladder_begin := F_ladder_begin.binds (ps := ["self", "level", "number"]) fun _ _ _ _ _ _ us hl => match us, hl with | [_, _, _], _ => rfl
  have F_ladder_reach := fun_mk (st := s_ladder_reach) l_ladder_reach c_ladder_reach k_ladder_reach
  have bd_ladder_reach := F_ladder_reach.binds (ps := ["self", "level", "spot"]) fun _ _ _ _ _ _ us hl => match us, hl with | [_, _, _], _ => rfl
  have F_ladder_heirs := fun_mk (st := s_ladder_heirs) l_ladder_heirs c_ladder_heirs k_ladder_heirs
  have bd_ladder_heirs := F_ladder_heirs.binds (ps := ["self", "number"]) fun _ _ _ _ _ _ us hl => match us, hl with | [_, _], _ => rfl
  have F_ladder_walk := fun_mk (st := s_ladder_walk) l_ladder_walk c_ladder_walk k_ladder_walk
  have bd_ladder_walk := F_ladder_walk.binds (ps := ["self", "last"]) fun _ _ _ _ _ _ us hl => match us, hl with | [_, _], _ => rfl
  have F_l_whole := fun_mk (st := s_l_whole) l_l_whole c_l_whole k_l_whole
  have bd_l_whole := F_l_whole.binds (ps := ["_law_found"]) fun _ _ _ _ _ _ us hl => match us, hl with | [_], _ => rfl
  have F_l_cell_at := fun_mk (st := s_l_cell_at) l_l_cell_at c_l_cell_at k_l_cell_at
  have bd_l_cell_at := F_l_cell_at.binds (ps := ["_law_script", "_law_k"]) fun _ _ _ _ _ _ us hl => match us, hl with | [_, _], _ => rfl
  have F_l_number := fun_mk (st := s_l_number) l_l_number c_l_number k_l_number
  have bd_l_number := F_l_number.binds (ps := ["_law_cell", "_law_limit"]) fun _ _ _ _ _ _ us hl => match us, hl with | [_, _], _ => rfl
  have F_l_deed := fun_mk (st := s_l_deed) l_l_deed c_l_deed k_l_deed
  have bd_l_deed := F_l_deed.binds (ps := ["_law_ladder", "_law_row", "_law_gone", "_law_cell", "_law_limit"]) fun _ _ _ _ _ _ us hl => match us, hl with | [_, _, _, _, _], _ => rfl
  have F_l_missing := fun_mk (st := s_l_missing) l_l_missing c_l_missing k_l_missing
  have bd_l_missing := F_l_missing.binds (ps := ["_law_ladder", "_law_number_here"]) fun _ _ _ _ _ _ us hl => match us, hl with | [_, _], _ => rfl
  have F_l_no_place := fun_mk (st := s_l_no_place) l_l_no_place c_l_no_place k_l_no_place
  have bd_l_no_place := F_l_no_place.binds (ps := ["_law_ladder", "_law_place"]) fun _ _ _ _ _ _ us hl => match us, hl with | [_, _], _ => rfl
  have F_l_gap := fun_mk (st := s_l_gap) l_l_gap c_l_gap k_l_gap
  have bd_l_gap := F_l_gap.binds (ps := ["_law_row", "_law_number_here", "_law_found"]) fun _ _ _ _ _ _ us hl => match us, hl with | [_, _, _], _ => rfl
  have F_l_way := fun_mk (st := s_l_way) l_l_way c_l_way k_l_way
  have bd_l_way := F_l_way.binds (ps := ["_law_ladder", "_law_row", "_law_place"]) fun _ _ _ _ _ _ us hl => match us, hl with | [_, _, _], _ => rfl
  have F_l_stretch := fun_mk (st := s_l_stretch) l_l_stretch c_l_stretch k_l_stretch
  have bd_l_stretch := F_l_stretch.binds (ps := ["_law_ladder", "_law_row", "_law_low", "_law_high"]) fun _ _ _ _ _ _ us hl => match us, hl with | [_, _, _, _], _ => rfl
  have F_l_refused := fun_mk (st := s_l_refused) l_l_refused c_l_refused k_l_refused
  have bd_l_refused := F_l_refused.binds (ps := ["_law_ladder", "_law_low", "_law_high"]) fun _ _ _ _ _ _ us hl => match us, hl with | [_, _, _], _ => rfl
  have F_l_filled := fun_mk (st := s_l_filled) l_l_filled c_l_filled k_l_filled
  have bd_l_filled := F_l_filled.binds (ps := ["_law_script", "_law_ladder", "_law_limit"]) fun _ _ _ _ _ _ us hl => match us, hl with | [_, _, _], _ => rfl
  have F_law := fun_mk (st := s_law) l_law c_law k_law
  have T : Txt K mg := { f_power := _, fd_power := _, F_power := F_power, bd_power := bd_power, g_power := PySem.W.mg_of X G a_power, f_block := _, fd_block := _, F_block := F_block, bd_block := bd_block, g_block := PySem.W.mg_of X G a_block, f_thinned := _, fd_thinned := _, F_thinned := F_thinned, bd_thinned := bd_thinned, g_thinned := PySem.W.mg_of X G a_thinned, f_tall := _, fd_tall := _, F_tall := F_tall, bd_tall := bd_tall, g_tall := PySem.W.mg_of X G a_tall, f_ladder_init := _, fd_ladder_init := _, F_ladder_init := F_ladder_init, bd_ladder_init := bd_ladder_init, f_ladder_put := _, fd_ladder_put := _, F_ladder_put := F_ladder_put, bd_ladder_put := bd_ladder_put, f_ladder_take := _, fd_ladder_take := _, F_ladder_take := F_ladder_take, bd_ladder_take := bd_ladder_take, f_ladder_has := _, fd_ladder_has := _, F_ladder_has := F_ladder_has, bd_ladder_has := bd_ladder_has, f_ladder_row := _, fd_ladder_row := _, F_ladder_row := F_ladder_row, bd_ladder_row := bd_ladder_row, f_ladder_level := _, fd_ladder_level := _, F_ladder_level := F_ladder_level, bd_ladder_level := bd_ladder_level, f_ladder_ahead := _, fd_ladder_ahead := _, F_ladder_ahead := F_ladder_ahead, bd_ladder_ahead := bd_ladder_ahead, f_ladder_trail := _, fd_ladder_trail := _, F_ladder_trail := F_ladder_trail, bd_ladder_trail := bd_ladder_trail, f_ladder_below := _, fd_ladder_below := _, F_ladder_below := F_ladder_below, bd_ladder_below := bd_ladder_below, f_ladder_above := _, fd_ladder_above := _, F_ladder_above := F_ladder_above, bd_ladder_above := bd_ladder_above, f_ladder_place := _, fd_ladder_place := _, F_ladder_place := F_ladder_place, bd_ladder_place := bd_ladder_place, f_ladder_at := _, fd_ladder_at := _, F_ladder_at := F_ladder_at, bd_ladder_at := bd_ladder_at, f_ladder_way := _, fd_ladder_way := _, F_ladder_way := F_ladder_way, bd_ladder_way := bd_ladder_way, f_ladder_stretch := _, fd_ladder_stretch := _, F_ladder_stretch := F_ladder_stretch, bd_ladder_stretch := bd_ladder_stretch, f_ladder_counted := _, fd_ladder_counted := _, F_ladder_counted := F_ladder_counted, bd_ladder_counted := bd_ladder_counted, f_ladder_check_number := _, fd_ladder_check_number := _, F_ladder_check_number := F_ladder_check_number, bd_ladder_check_number := bd_ladder_check_number, f_ladder_check_end := _, fd_ladder_check_end := _, F_ladder_check_end := F_ladder_check_end, bd_ladder_check_end := bd_ladder_check_end, f_ladder_check_level := _, fd_ladder_check_level := _, F_ladder_check_level := F_ladder_check_level, bd_ladder_check_level := bd_ladder_check_level, f_ladder_check_place := _, fd_ladder_check_place := _, F_ladder_check_place := F_ladder_check_place, bd_ladder_check_place := bd_ladder_check_place, f_ladder_spot := _, fd_ladder_spot := _, F_ladder_spot := F_ladder_spot, bd_ladder_spot := bd_ladder_spot, f_ladder_at_or_none := _, fd_ladder_at_or_none := _, F_ladder_at_or_none := F_ladder_at_or_none, bd_ladder_at_or_none := bd_ladder_at_or_none, f_ladder_before := _, fd_ladder_before := _, F_ladder_before := F_ladder_before, bd_ladder_before := bd_ladder_before, f_ladder_begin := _, fd_ladder_begin := _, F_ladder_begin := F_ladder_begin, bd_ladder_begin := bd_ladder_begin, f_ladder_reach := _, fd_ladder_reach := _, F_ladder_reach := F_ladder_reach, bd_ladder_reach := bd_ladder_reach, f_ladder_heirs := _, fd_ladder_heirs := _, F_ladder_heirs := F_ladder_heirs, bd_ladder_heirs := bd_ladder_heirs, f_ladder_walk := _, fd_ladder_walk := _, F_ladder_walk := F_ladder_walk, bd_ladder_walk := bd_ladder_walk, f_l_whole := _, fd_l_whole := _, F_l_whole := F_l_whole, bd_l_whole := bd_l_whole, g_l_whole := PySem.W.mg_of X G a_l_whole, f_l_cell_at := _, fd_l_cell_at := _, F_l_cell_at := F_l_cell_at, bd_l_cell_at := bd_l_cell_at, g_l_cell_at := PySem.W.mg_of X G a_l_cell_at, f_l_number := _, fd_l_number := _, F_l_number := F_l_number, bd_l_number := bd_l_number, g_l_number := PySem.W.mg_of X G a_l_number, f_l_deed := _, fd_l_deed := _, F_l_deed := F_l_deed, bd_l_deed := bd_l_deed, g_l_deed := PySem.W.mg_of X G a_l_deed, f_l_missing := _, fd_l_missing := _, F_l_missing := F_l_missing, bd_l_missing := bd_l_missing, g_l_missing := PySem.W.mg_of X G a_l_missing, f_l_no_place := _, fd_l_no_place := _, F_l_no_place := F_l_no_place, bd_l_no_place := bd_l_no_place, g_l_no_place := PySem.W.mg_of X G a_l_no_place, f_l_gap := _, fd_l_gap := _, F_l_gap := F_l_gap, bd_l_gap := bd_l_gap, g_l_gap := PySem.W.mg_of X G a_l_gap, f_l_way := _, fd_l_way := _, F_l_way := F_l_way, bd_l_way := bd_l_way, g_l_way := PySem.W.mg_of X G a_l_way, f_l_stretch := _, fd_l_stretch := _, F_l_stretch := F_l_stretch, bd_l_stretch := bd_l_stretch, g_l_stretch := PySem.W.mg_of X G a_l_stretch, f_l_refused := _, fd_l_refused := _, F_l_refused := F_l_refused, bd_l_refused := bd_l_refused, g_l_refused := PySem.W.mg_of X G a_l_refused, f_l_filled := _, fd_l_filled := _, F_l_filled := F_l_filled, bd_l_filled := bd_l_filled, g_l_filled := PySem.W.mg_of X G a_l_filled, b_all := PySem.W.mg_none_of X G z_all, b_bool := PySem.W.mg_none_of X G z_bool, b_enumerate := PySem.W.mg_none_of X G z_enumerate, b_int := PySem.W.mg_none_of X G z_int, b_isinstance := PySem.W.mg_none_of X G z_isinstance, b_len := PySem.W.mg_none_of X G z_len, b_list := PySem.W.mg_none_of X G z_list, b_min := PySem.W.mg_none_of X G z_min, b_range := PySem.W.mg_none_of X G z_range, b_sorted := PySem.W.mg_none_of X G z_sorted, b_tuple := PySem.W.mg_none_of X G z_tuple, c_Ladder := _, x_Ladder := PySem.W.mg_of X G aC_Ladder, c_LadderError := _, x_LadderError := PySem.W.mg_of X G aC_LadderError, c_BadSize := _, x_BadSize := PySem.W.mg_of X G aC_BadSize, c_OutOfRange := _, x_OutOfRange := PySem.W.mg_of X G aC_OutOfRange, c_Present := _, x_Present := PySem.W.mg_of X G aC_Present, c_Missing := _, x_Missing := PySem.W.mg_of X G aC_Missing, c_NoLevel := _, x_NoLevel := PySem.W.mg_of X G aC_NoLevel, c_NoPlace := _, x_NoPlace := PySem.W.mg_of X G aC_NoPlace, cl_Ladder := ⟨pg_Ladder, hd_Ladder, po_Ladder, sa_Ladder⟩, mk_Ladder := ⟨ma_Ladder, a_ladder_init, i_ladder_init, kc_Ladder⟩, m_ladder_put := ⟨a_ladder_put, i_ladder_put, k_ladder_put⟩, m_ladder_take := ⟨a_ladder_take, i_ladder_take, k_ladder_take⟩, m_ladder_has := ⟨a_ladder_has, i_ladder_has, k_ladder_has⟩, m_ladder_row := ⟨a_ladder_row, i_ladder_row, k_ladder_row⟩, m_ladder_level := ⟨a_ladder_level, i_ladder_level, k_ladder_level⟩, m_ladder_ahead := ⟨a_ladder_ahead, i_ladder_ahead, k_ladder_ahead⟩, m_ladder_trail := ⟨a_ladder_trail, i_ladder_trail, k_ladder_trail⟩, m_ladder_below := ⟨a_ladder_below, i_ladder_below, k_ladder_below⟩, m_ladder_above := ⟨a_ladder_above, i_ladder_above, k_ladder_above⟩, m_ladder_place := ⟨a_ladder_place, i_ladder_place, k_ladder_place⟩, m_ladder_at := ⟨a_ladder_at, i_ladder_at, k_ladder_at⟩, m_ladder_way := ⟨a_ladder_way, i_ladder_way, k_ladder_way⟩, m_ladder_stretch := ⟨a_ladder_stretch, i_ladder_stretch, k_ladder_stretch⟩, m_ladder_counted := ⟨a_ladder_counted, i_ladder_counted, k_ladder_counted⟩, m_ladder_check_number := ⟨a_ladder_check_number, i_ladder_check_number, k_ladder_check_number⟩, m_ladder_check_end := ⟨a_ladder_check_end, i_ladder_check_end, k_ladder_check_end⟩, m_ladder_check_level := ⟨a_ladder_check_level, i_ladder_check_level, k_ladder_check_level⟩, m_ladder_check_place := ⟨a_ladder_check_place, i_ladder_check_place, k_ladder_check_place⟩, m_ladder_spot := ⟨a_ladder_spot, i_ladder_spot, k_ladder_spot⟩, m_ladder_at_or_none := ⟨a_ladder_at_or_none, i_ladder_at_or_none, k_ladder_at_or_none⟩, m_ladder_before := ⟨a_ladder_before, i_ladder_before, k_ladder_before⟩, m_ladder_begin := ⟨a_ladder_begin, i_ladder_begin, k_ladder_begin⟩, m_ladder_reach := ⟨a_ladder_reach, i_ladder_reach, k_ladder_reach⟩, m_ladder_heirs := ⟨a_ladder_heirs, i_ladder_heirs, k_ladder_heirs⟩, m_ladder_walk := ⟨a_ladder_walk, i_ladder_walk, k_ladder_walk⟩, n_Ladder_width := n_Ladder_width, n_Ladder_high := n_Ladder_high, n_Ladder_limit := n_Ladder_limit, n_Ladder_many := n_Ladder_many, n_Ladder__row := n_Ladder__row, xp_BadSize := xp_BadSize, kp_BadSize := kp_BadSize, bp_BadSize := bp_BadSize, tp_BadSize := tp_BadSize, xp_OutOfRange := xp_OutOfRange, kp_OutOfRange := kp_OutOfRange, bp_OutOfRange := bp_OutOfRange, tp_OutOfRange := tp_OutOfRange, xp_Present := xp_Present, kp_Present := kp_Present, bp_Present := bp_Present, tp_Present := tp_Present, xp_Missing := xp_Missing, kp_Missing := kp_Missing, bp_Missing := bp_Missing, tp_Missing := tp_Missing, xp_NoLevel := xp_NoLevel, kp_NoLevel := kp_NoLevel, bp_NoLevel := bp_NoLevel, tp_NoLevel := tp_NoLevel, xp_NoPlace := xp_NoPlace, kp_NoPlace := kp_NoPlace, bp_NoPlace := bp_NoPlace, tp_NoPlace := tp_NoPlace, exm_BadSize_Missing := exm_BadSize_Missing, exm_BadSize_NoPlace := exm_BadSize_NoPlace, exm_BadSize_OutOfRange := exm_BadSize_OutOfRange, exm_OutOfRange_Missing := exm_OutOfRange_Missing, exm_OutOfRange_NoPlace := exm_OutOfRange_NoPlace, exm_OutOfRange_OutOfRange := exm_OutOfRange_OutOfRange, exm_Present_Missing := exm_Present_Missing, exm_Present_NoPlace := exm_Present_NoPlace, exm_Present_OutOfRange := exm_Present_OutOfRange, exm_Missing_Missing := exm_Missing_Missing, exm_Missing_NoPlace := exm_Missing_NoPlace, exm_Missing_OutOfRange := exm_Missing_OutOfRange, exm_NoLevel_Missing := exm_NoLevel_Missing, exm_NoLevel_NoPlace := exm_NoLevel_NoPlace, exm_NoLevel_OutOfRange := exm_NoLevel_OutOfRange, exm_NoPlace_Missing := exm_NoPlace_Missing, exm_NoPlace_NoPlace := exm_NoPlace_NoPlace, exm_NoPlace_OutOfRange := exm_NoPlace_OutOfRange }
  exact ⟨PySem.W.fnOf "law" "law" (defArgs s_law) (defBody s_law) (defScope s_law) .none kV_law dc_law pm_law an_law cd_law ct_law, fun s v => .of_eq rfl, fun base _ _ => ok_law F_law T (theRep T) (theProg T)⟩
end Sk
open PySem PySem.W PyProof.Rows
set_option maxRecDepth 100000 in
set_option maxHeartbeats 0 in
theorem PySem.Challenge.cw_skipladder_k13_whole_places_holds : PySem.Challenge.rw_skipladder_k13_whole_places.Holds := by
  w_on; o_law; k_head; (case hw => w_witness2)
  k_fill
  refine L2.walk_of (l := PySem.Challenge.rw_skipladder_k13_whole_places) (n := 63) (k := 23) (x := "_law_script") (CX := fun _ => L2.CX0) (sp := fun w => Sk.sp_law _) rfl (by decide) rfl ⟨rfl, by decide, by decide⟩ (fun w h Y => PySem.W.kIn_of Y) ?F (fun _ _ a ns hl _ hS => ⟨a, ns, rfl, hS, hl, fun _ => rfl⟩) (fun _ _ _ _ _ h => h)
  case F =>
    intro w mg fa h KX G hmg
    refine' Sk.all_mk KX G hmg ?aC_Ladder ?aC_LadderError ?aC_BadSize ?aC_OutOfRange ?aC_Present ?aC_Missing ?aC_NoLevel ?aC_NoPlace ?a_power ?l_power ?c_power ?k_power ?a_block ?l_block ?c_block ?k_block ?a_thinned ?l_thinned ?c_thinned ?k_thinned ?a_tall ?l_tall ?c_tall ?k_tall ?a_ladder_init ?l_ladder_init ?c_ladder_init ?k_ladder_init ?a_ladder_put ?l_ladder_put ?c_ladder_put ?k_ladder_put ?a_ladder_take ?l_ladder_take ?c_ladder_take ?k_ladder_take ?a_ladder_has ?l_ladder_has ?c_ladder_has ?k_ladder_has ?a_ladder_row ?l_ladder_row ?c_ladder_row ?k_ladder_row ?a_ladder_level ?l_ladder_level ?c_ladder_level ?k_ladder_level ?a_ladder_ahead ?l_ladder_ahead ?c_ladder_ahead ?k_ladder_ahead ?a_ladder_trail ?l_ladder_trail ?c_ladder_trail ?k_ladder_trail ?a_ladder_below ?l_ladder_below ?c_ladder_below ?k_ladder_below ?a_ladder_above ?l_ladder_above ?c_ladder_above ?k_ladder_above ?a_ladder_place ?l_ladder_place ?c_ladder_place ?k_ladder_place ?a_ladder_at ?l_ladder_at ?c_ladder_at ?k_ladder_at ?a_ladder_way ?l_ladder_way ?c_ladder_way ?k_ladder_way ?a_ladder_stretch ?l_ladder_stretch ?c_ladder_stretch ?k_ladder_stretch ?a_ladder_counted ?l_ladder_counted ?c_ladder_counted ?k_ladder_counted ?a_ladder_check_number ?l_ladder_check_number ?c_ladder_check_number ?k_ladder_check_number ?a_ladder_check_end ?l_ladder_check_end ?c_ladder_check_end ?k_ladder_check_end ?a_ladder_check_level ?l_ladder_check_level ?c_ladder_check_level ?k_ladder_check_level ?a_ladder_check_place ?l_ladder_check_place ?c_ladder_check_place ?k_ladder_check_place ?a_ladder_spot ?l_ladder_spot ?c_ladder_spot ?k_ladder_spot ?a_ladder_at_or_none ?l_ladder_at_or_none ?c_ladder_at_or_none ?k_ladder_at_or_none ?a_ladder_before ?l_ladder_before ?c_ladder_before ?k_ladder_before ?a_ladder_begin ?l_ladder_begin ?c_ladder_begin ?k_ladder_begin ?a_ladder_reach ?l_ladder_reach ?c_ladder_reach ?k_ladder_reach ?a_ladder_heirs ?l_ladder_heirs ?c_ladder_heirs ?k_ladder_heirs ?a_ladder_walk ?l_ladder_walk ?c_ladder_walk ?k_ladder_walk ?a_l_whole ?l_l_whole ?c_l_whole ?k_l_whole ?a_l_cell_at ?l_l_cell_at ?c_l_cell_at ?k_l_cell_at ?a_l_number ?l_l_number ?c_l_number ?k_l_number ?a_l_deed ?l_l_deed ?c_l_deed ?k_l_deed ?a_l_missing ?l_l_missing ?c_l_missing ?k_l_missing ?a_l_no_place ?l_l_no_place ?c_l_no_place ?k_l_no_place ?a_l_gap ?l_l_gap ?c_l_gap ?k_l_gap ?a_l_way ?l_l_way ?c_l_way ?k_l_way ?a_l_stretch ?l_l_stretch ?c_l_stretch ?k_l_stretch ?a_l_refused ?l_l_refused ?c_l_refused ?k_l_refused ?a_l_filled ?l_l_filled ?c_l_filled ?k_l_filled ?a_law ?l_law ?c_law ?k_law ?z_all ?z_bool ?z_enumerate ?z_int ?z_isinstance ?z_len ?z_list ?z_min ?z_range ?z_sorted ?z_tuple ?pg_Ladder ?hd_Ladder ?po_Ladder ?sa_Ladder ?ma_Ladder ?kc_Ladder ?i_ladder_init ?i_ladder_put ?i_ladder_take ?i_ladder_has ?i_ladder_row ?i_ladder_level ?i_ladder_ahead ?i_ladder_trail ?i_ladder_below ?i_ladder_above ?i_ladder_place ?i_ladder_at ?i_ladder_way ?i_ladder_stretch ?i_ladder_counted ?i_ladder_check_number ?i_ladder_check_end ?i_ladder_check_level ?i_ladder_check_place ?i_ladder_spot ?i_ladder_at_or_none ?i_ladder_before ?i_ladder_begin ?i_ladder_reach ?i_ladder_heirs ?i_ladder_walk ?n_Ladder_width ?n_Ladder_high ?n_Ladder_limit ?n_Ladder_many ?n_Ladder__row ?xp_BadSize ?kp_BadSize ?bp_BadSize ?tp_BadSize ?xp_OutOfRange ?kp_OutOfRange ?bp_OutOfRange ?tp_OutOfRange ?xp_Present ?kp_Present ?bp_Present ?tp_Present ?xp_Missing ?kp_Missing ?bp_Missing ?tp_Missing ?xp_NoLevel ?kp_NoLevel ?bp_NoLevel ?tp_NoLevel ?xp_NoPlace ?kp_NoPlace ?bp_NoPlace ?tp_NoPlace ?exm_BadSize_Missing ?exm_BadSize_NoPlace ?exm_BadSize_OutOfRange ?exm_OutOfRange_Missing ?exm_OutOfRange_NoPlace ?exm_OutOfRange_OutOfRange ?exm_Present_Missing ?exm_Present_NoPlace ?exm_Present_OutOfRange ?exm_Missing_Missing ?exm_Missing_NoPlace ?exm_Missing_OutOfRange ?exm_NoLevel_Missing ?exm_NoLevel_NoPlace ?exm_NoLevel_OutOfRange ?exm_NoPlace_Missing ?exm_NoPlace_NoPlace ?exm_NoPlace_OutOfRange
    (case aC_Ladder => k_is)
    (case aC_LadderError => k_is)
    (case aC_BadSize => k_is)
    (case aC_OutOfRange => k_is)
    (case aC_Present => k_is)
    (case aC_Missing => k_is)
    (case aC_NoLevel => k_is)
    (case aC_NoPlace => k_is)
    (case a_power => k_is)
    (case l_power => k_is)
    (case c_power => k_is)
    (case k_power => k_is)
    (case a_block => k_is)
    (case l_block => k_is)
    (case c_block => k_is)
    (case k_block => k_is)
    (case a_thinned => k_is)
    (case l_thinned => k_is)
    (case c_thinned => k_is)
    (case k_thinned => k_is)
    (case a_tall => k_is)
    (case l_tall => k_is)
    (case c_tall => k_is)
    (case k_tall => k_is)
    (case a_ladder_init => k_is)
    (case l_ladder_init => k_is)
    (case c_ladder_init => k_is)
    (case k_ladder_init => k_is)
    (case a_ladder_put => k_is)
    (case l_ladder_put => k_is)
    (case c_ladder_put => k_is)
    (case k_ladder_put => k_is)
    (case a_ladder_take => k_is)
    (case l_ladder_take => k_is)
    (case c_ladder_take => k_is)
    (case k_ladder_take => k_is)
    (case a_ladder_has => k_is)
    (case l_ladder_has => k_is)
    (case c_ladder_has => k_is)
    (case k_ladder_has => k_is)
    (case a_ladder_row => k_is)
    (case l_ladder_row => k_is)
    (case c_ladder_row => k_is)
    (case k_ladder_row => k_is)
    (case a_ladder_level => k_is)
    (case l_ladder_level => k_is)
    (case c_ladder_level => k_is)
    (case k_ladder_level => k_is)
    (case a_ladder_ahead => k_is)
    (case l_ladder_ahead => k_is)
    (case c_ladder_ahead => k_is)
    (case k_ladder_ahead => k_is)
    (case a_ladder_trail => k_is)
    (case l_ladder_trail => k_is)
    (case c_ladder_trail => k_is)
    (case k_ladder_trail => k_is)
    (case a_ladder_below => k_is)
    (case l_ladder_below => k_is)
    (case c_ladder_below => k_is)
    (case k_ladder_below => k_is)
    (case a_ladder_above => k_is)
    (case l_ladder_above => k_is)
    (case c_ladder_above => k_is)
    (case k_ladder_above => k_is)
    (case a_ladder_place => k_is)
    (case l_ladder_place => k_is)
    (case c_ladder_place => k_is)
    (case k_ladder_place => k_is)
    (case a_ladder_at => k_is)
    (case l_ladder_at => k_is)
    (case c_ladder_at => k_is)
    (case k_ladder_at => k_is)
    (case a_ladder_way => k_is)
    (case l_ladder_way => k_is)
    (case c_ladder_way => k_is)
    (case k_ladder_way => k_is)
    (case a_ladder_stretch => k_is)
    (case l_ladder_stretch => k_is)
    (case c_ladder_stretch => k_is)
    (case k_ladder_stretch => k_is)
    (case a_ladder_counted => k_is)
    (case l_ladder_counted => k_is)
    (case c_ladder_counted => k_is)
    (case k_ladder_counted => k_is)
    (case a_ladder_check_number => k_is)
    (case l_ladder_check_number => k_is)
    (case c_ladder_check_number => k_is)
    (case k_ladder_check_number => k_is)
    (case a_ladder_check_end => k_is)
    (case l_ladder_check_end => k_is)
    (case c_ladder_check_end => k_is)
    (case k_ladder_check_end => k_is)
    (case a_ladder_check_level => k_is)
    (case l_ladder_check_level => k_is)
    (case c_ladder_check_level => k_is)
    (case k_ladder_check_level => k_is)
    (case a_ladder_check_place => k_is)
    (case l_ladder_check_place => k_is)
    (case c_ladder_check_place => k_is)
    (case k_ladder_check_place => k_is)
    (case a_ladder_spot => k_is)
    (case l_ladder_spot => k_is)
    (case c_ladder_spot => k_is)
    (case k_ladder_spot => k_is)
    (case a_ladder_at_or_none => k_is)
    (case l_ladder_at_or_none => k_is)
    (case c_ladder_at_or_none => k_is)
    (case k_ladder_at_or_none => k_is)
    (case a_ladder_before => k_is)
    (case l_ladder_before => k_is)
    (case c_ladder_before => k_is)
    (case k_ladder_before => k_is)
    (case a_ladder_begin => k_is)
    (case l_ladder_begin => k_is)
    (case c_ladder_begin => k_is)
    (case k_ladder_begin => k_is)
    (case a_ladder_reach => k_is)
    (case l_ladder_reach => k_is)
    (case c_ladder_reach => k_is)
    (case k_ladder_reach => k_is)
    (case a_ladder_heirs => k_is)
    (case l_ladder_heirs => k_is)
    (case c_ladder_heirs => k_is)
    (case k_ladder_heirs => k_is)
    (case a_ladder_walk => k_is)
    (case l_ladder_walk => k_is)
    (case c_ladder_walk => k_is)
    (case k_ladder_walk => k_is)
    (case a_l_whole => k_is)
    (case l_l_whole => k_is)
    (case c_l_whole => k_is)
    (case k_l_whole => k_is)
    (case a_l_cell_at => k_is)
    (case l_l_cell_at => k_is)
    (case c_l_cell_at => k_is)
    (case k_l_cell_at => k_is)
    (case a_l_number => k_is)
    (case l_l_number => k_is)
    (case c_l_number => k_is)
    (case k_l_number => k_is)
    (case a_l_deed => k_is)
    (case l_l_deed => k_is)
    (case c_l_deed => k_is)
    (case k_l_deed => k_is)
    (case a_l_missing => k_is)
    (case l_l_missing => k_is)
    (case c_l_missing => k_is)
    (case k_l_missing => k_is)
    (case a_l_no_place => k_is)
    (case l_l_no_place => k_is)
    (case c_l_no_place => k_is)
    (case k_l_no_place => k_is)
    (case a_l_gap => k_is)
    (case l_l_gap => k_is)
    (case c_l_gap => k_is)
    (case k_l_gap => k_is)
    (case a_l_way => k_is)
    (case l_l_way => k_is)
    (case c_l_way => k_is)
    (case k_l_way => k_is)
    (case a_l_stretch => k_is)
    (case l_l_stretch => k_is)
    (case c_l_stretch => k_is)
    (case k_l_stretch => k_is)
    (case a_l_refused => k_is)
    (case l_l_refused => k_is)
    (case c_l_refused => k_is)
    (case k_l_refused => k_is)
    (case a_l_filled => k_is)
    (case l_l_filled => k_is)
    (case c_l_filled => k_is)
    (case k_l_filled => k_is)
    (case a_law => k_is)
    (case l_law => k_is)
    (case c_law => k_is)
    (case k_law => k_is)
    (case z_all => k_is)
    (case z_bool => k_is)
    (case z_enumerate => k_is)
    (case z_int => k_is)
    (case z_isinstance => k_is)
    (case z_len => k_is)
    (case z_list => k_is)
    (case z_min => k_is)
    (case z_range => k_is)
    (case z_sorted => k_is)
    (case z_tuple => k_is)
    (case pg_Ladder => k_is)
    (case hd_Ladder => k_is)
    (case po_Ladder => k_is)
    (case sa_Ladder => k_is)
    (case ma_Ladder => k_is)
    (case kc_Ladder => k_is)
    (case i_ladder_init => k_is)
    (case i_ladder_put => k_is)
    (case i_ladder_take => k_is)
    (case i_ladder_has => k_is)
    (case i_ladder_row => k_is)
    (case i_ladder_level => k_is)
    (case i_ladder_ahead => k_is)
    (case i_ladder_trail => k_is)
    (case i_ladder_below => k_is)
    (case i_ladder_above => k_is)
    (case i_ladder_place => k_is)
    (case i_ladder_at => k_is)
    (case i_ladder_way => k_is)
    (case i_ladder_stretch => k_is)
    (case i_ladder_counted => k_is)
    (case i_ladder_check_number => k_is)
    (case i_ladder_check_end => k_is)
    (case i_ladder_check_level => k_is)
    (case i_ladder_check_place => k_is)
    (case i_ladder_spot => k_is)
    (case i_ladder_at_or_none => k_is)
    (case i_ladder_before => k_is)
    (case i_ladder_begin => k_is)
    (case i_ladder_reach => k_is)
    (case i_ladder_heirs => k_is)
    (case i_ladder_walk => k_is)
    (case n_Ladder_width => k_is)
    (case n_Ladder_high => k_is)
    (case n_Ladder_limit => k_is)
    (case n_Ladder_many => k_is)
    (case n_Ladder__row => k_is)
    (case xp_BadSize => k_exc)
    (case kp_BadSize => k_is)
    (case bp_BadSize => k_is)
    (case tp_BadSize => k_is)
    (case xp_OutOfRange => k_exc)
    (case kp_OutOfRange => k_is)
    (case bp_OutOfRange => k_is)
    (case tp_OutOfRange => k_is)
    (case xp_Present => k_exc)
    (case kp_Present => k_is)
    (case bp_Present => k_is)
    (case tp_Present => k_is)
    (case xp_Missing => k_exc)
    (case kp_Missing => k_is)
    (case bp_Missing => k_is)
    (case tp_Missing => k_is)
    (case xp_NoLevel => k_exc)
    (case kp_NoLevel => k_is)
    (case bp_NoLevel => k_is)
    (case tp_NoLevel => k_is)
    (case xp_NoPlace => k_exc)
    (case kp_NoPlace => k_is)
    (case bp_NoPlace => k_is)
    (case tp_NoPlace => k_is)
    (case exm_BadSize_Missing => kts_exm)
    (case exm_BadSize_NoPlace => kts_exm)
    (case exm_BadSize_OutOfRange => kts_exm)
    (case exm_OutOfRange_Missing => kts_exm)
    (case exm_OutOfRange_NoPlace => kts_exm)
    (case exm_OutOfRange_OutOfRange => kts_exm)
    (case exm_Present_Missing => kts_exm)
    (case exm_Present_NoPlace => kts_exm)
    (case exm_Present_OutOfRange => kts_exm)
    (case exm_Missing_Missing => kts_exm)
    (case exm_Missing_NoPlace => kts_exm)
    (case exm_Missing_OutOfRange => kts_exm)
    (case exm_NoLevel_Missing => kts_exm)
    (case exm_NoLevel_NoPlace => kts_exm)
    (case exm_NoLevel_OutOfRange => kts_exm)
    (case exm_NoPlace_Missing => kts_exm)
    (case exm_NoPlace_NoPlace => kts_exm)
    (case exm_NoPlace_OutOfRange => kts_exm)

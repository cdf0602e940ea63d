import PyProof.Rows.All
import Wide.All
import OpenK.AllK
import Wide.FinOn
import HandS.ForMost
import HandS.More
import HandS.Wide
import HandS.Conv
import HandS.IsInst
import HandS.Evl
import HandS.ForExc
import HandS.TryOnly
import HandS.TryMany
import HandS.ExcIs
import HandS.SortInts
import HandS.SetFor
import HandS.More
import HandS.Style
import KE.RegKTryMore
import KE.RegKIsAll
import HandS.Dict
import PySem.Challenge.RW_skipladder_k04_sizes
set_option Elab.async false
set_option linter.all false
set_option maxRecDepth 100000
set_option maxHeartbeats 4000000
namespace Sk
open PySem L2
def top (i : Nat) : Stmt := PySem.Challenge.pw_skipladder_k04_sizes.main.body.getD i (.Pass ⟨0, 0, 0, 0⟩)
abbrev s_power : Stmt := top 1
theorem sc_power : FnScope ["width", "level", "answer", "_"] ["width", "level"] (defScope s_power) := ⟨rfl, rfl, rfl, by decide +kernel, rfl, by decide +kernel, by decide +kernel⟩
abbrev s_block : Stmt := top 2
theorem sc_block : FnScope ["width", "level", "number"] ["width", "level", "number"] (defScope s_block) := ⟨rfl, rfl, rfl, by decide +kernel, rfl, by decide +kernel, by decide +kernel⟩
abbrev s_thinned : Stmt := top 3
theorem sc_thinned : FnScope ["width", "level", "row", "least", "number"] ["width", "level", "row"] (defScope s_thinned) := ⟨rfl, rfl, rfl, by decide +kernel, rfl, by decide +kernel, by decide +kernel⟩
abbrev s_tall : Stmt := top 4
theorem sc_tall : FnScope ["width", "high", "before", "number", "levels", "level"] ["width", "high", "before", "number"] (defScope s_tall) := ⟨rfl, rfl, rfl, by decide +kernel, rfl, by decide +kernel, by decide +kernel⟩
abbrev s_ladder_init : Stmt := inClass (top 15) 0
theorem sc_ladder_init : FnScope ["self", "width", "high"] ["self", "width", "high"] (defScope s_ladder_init) := ⟨rfl, rfl, rfl, by decide +kernel, rfl, by decide +kernel, by decide +kernel⟩
abbrev s_ladder_put : Stmt := inClass (top 15) 1
theorem sc_ladder_put : FnScope ["self", "number", "level", "went"] ["self", "number"] (defScope s_ladder_put) := ⟨rfl, rfl, rfl, by decide +kernel, rfl, by decide +kernel, by decide +kernel⟩
abbrev s_ladder_take : Stmt := inClass (top 15) 2
theorem sc_ladder_take : FnScope ["self", "number", "heirs", "level", "came"] ["self", "number"] (defScope s_ladder_take) := ⟨rfl, rfl, rfl, by decide +kernel, rfl, by decide +kernel, by decide +kernel⟩
abbrev s_ladder_has : Stmt := inClass (top 15) 3
theorem sc_ladder_has : FnScope ["self", "number"] ["self", "number"] (defScope s_ladder_has) := ⟨rfl, rfl, rfl, by decide +kernel, rfl, by decide +kernel, by decide +kernel⟩
abbrev s_ladder_row : Stmt := inClass (top 15) 4
theorem sc_ladder_row : FnScope ["self"] ["self"] (defScope s_ladder_row) := ⟨rfl, rfl, rfl, by decide +kernel, rfl, by decide +kernel, by decide +kernel⟩
abbrev s_ladder_level : Stmt := inClass (top 15) 5
theorem sc_ladder_level : FnScope ["self", "level"] ["self", "level"] (defScope s_ladder_level) := ⟨rfl, rfl, rfl, by decide +kernel, rfl, by decide +kernel, by decide +kernel⟩
abbrev s_ladder_ahead : Stmt := inClass (top 15) 6
theorem sc_ladder_ahead : FnScope ["self", "level", "number", "begin", "spot", "reach"] ["self", "level", "number"] (defScope s_ladder_ahead) := ⟨rfl, rfl, rfl, by decide +kernel, rfl, by decide +kernel, by decide +kernel⟩
abbrev s_ladder_trail : Stmt := inClass (top 15) 7
theorem sc_ladder_trail : FnScope ["self", "number"] ["self", "number"] (defScope s_ladder_trail) := ⟨rfl, rfl, rfl, by decide +kernel, rfl, by decide +kernel, by decide +kernel⟩
abbrev s_ladder_below : Stmt := inClass (top 15) 8
theorem sc_ladder_below : FnScope ["self", "number"] ["self", "number"] (defScope s_ladder_below) := ⟨rfl, rfl, rfl, by decide +kernel, rfl, by decide +kernel, by decide +kernel⟩
abbrev s_ladder_above : Stmt := inClass (top 15) 9
theorem sc_ladder_above : FnScope ["self", "number"] ["self", "number"] (defScope s_ladder_above) := ⟨rfl, rfl, rfl, by decide +kernel, rfl, by decide +kernel, by decide +kernel⟩
abbrev s_ladder_place : Stmt := inClass (top 15) 10
theorem sc_ladder_place : FnScope ["self", "number"] ["self", "number"] (defScope s_ladder_place) := ⟨rfl, rfl, rfl, by decide +kernel, rfl, by decide +kernel, by decide +kernel⟩
abbrev s_ladder_at : Stmt := inClass (top 15) 11
theorem sc_ladder_at : FnScope ["self", "place"] ["self", "place"] (defScope s_ladder_at) := ⟨rfl, rfl, rfl, by decide +kernel, rfl, by decide +kernel, by decide +kernel⟩
abbrev s_ladder_way : Stmt := inClass (top 15) 12
theorem sc_ladder_way : FnScope ["self", "place"] ["self", "place"] (defScope s_ladder_way) := ⟨rfl, rfl, rfl, by decide +kernel, rfl, by decide +kernel, by decide +kernel⟩
abbrev s_ladder_stretch : Stmt := inClass (top 15) 13
theorem sc_ladder_stretch : FnScope ["self", "low", "high", "number"] ["self", "low", "high"] (defScope s_ladder_stretch) := ⟨rfl, rfl, rfl, by decide +kernel, rfl, by decide +kernel, by decide +kernel⟩
abbrev s_ladder_counted : Stmt := inClass (top 15) 14
theorem sc_ladder_counted : FnScope ["self", "low", "high"] ["self", "low", "high"] (defScope s_ladder_counted) := ⟨rfl, rfl, rfl, by decide +kernel, rfl, by decide +kernel, by decide +kernel⟩
abbrev s_ladder_check_number : Stmt := inClass (top 15) 15
theorem sc_ladder_check_number : FnScope ["self", "number"] ["self", "number"] (defScope s_ladder_check_number) := ⟨rfl, rfl, rfl, by decide +kernel, rfl, by decide +kernel, by decide +kernel⟩
abbrev s_ladder_check_end : Stmt := inClass (top 15) 16
theorem sc_ladder_check_end : FnScope ["self", "number"] ["self", "number"] (defScope s_ladder_check_end) := ⟨rfl, rfl, rfl, by decide +kernel, rfl, by decide +kernel, by decide +kernel⟩
abbrev s_ladder_check_level : Stmt := inClass (top 15) 17
theorem sc_ladder_check_level : FnScope ["self", "level"] ["self", "level"] (defScope s_ladder_check_level) := ⟨rfl, rfl, rfl, by decide +kernel, rfl, by decide +kernel, by decide +kernel⟩
abbrev s_ladder_check_place : Stmt := inClass (top 15) 18
theorem sc_ladder_check_place : FnScope ["self", "place"] ["self", "place"] (defScope s_ladder_check_place) := ⟨rfl, rfl, rfl, by decide +kernel, rfl, by decide +kernel, by decide +kernel⟩
abbrev s_ladder_spot : Stmt := inClass (top 15) 19
theorem sc_ladder_spot : FnScope ["self", "number", "kept"] ["self", "number"] (defScope s_ladder_spot) := ⟨rfl, rfl, rfl, by decide +kernel, rfl, by decide +kernel, by decide +kernel⟩
abbrev s_ladder_at_or_none : Stmt := inClass (top 15) 20
theorem sc_ladder_at_or_none : FnScope ["self", "spot"] ["self", "spot"] (defScope s_ladder_at_or_none) := ⟨rfl, rfl, rfl, by decide +kernel, rfl, by decide +kernel, by decide +kernel⟩
abbrev s_ladder_before : Stmt := inClass (top 15) 21
theorem sc_ladder_before : FnScope ["self", "spot"] ["self", "spot"] (defScope s_ladder_before) := ⟨rfl, rfl, rfl, by decide +kernel, rfl, by decide +kernel, by decide +kernel⟩
abbrev s_ladder_begin : Stmt := inClass (top 15) 22
theorem sc_ladder_begin : FnScope ["self", "level", "number"] ["self", "level", "number"] (defScope s_ladder_begin) := ⟨rfl, rfl, rfl, by decide +kernel, rfl, by decide +kernel, by decide +kernel⟩
abbrev s_ladder_reach : Stmt := inClass (top 15) 23
theorem sc_ladder_reach : FnScope ["self", "level", "spot", "begin"] ["self", "level", "spot"] (defScope s_ladder_reach) := ⟨rfl, rfl, rfl, by decide +kernel, rfl, by decide +kernel, by decide +kernel⟩
abbrev s_ladder_heirs : Stmt := inClass (top 15) 24
theorem sc_ladder_heirs : FnScope ["self", "number", "spot", "levels", "after", "beside", "level"] ["self", "number"] (defScope s_ladder_heirs) := ⟨rfl, rfl, rfl, by decide +kernel, rfl, by decide +kernel, by decide +kernel⟩
abbrev s_ladder_walk : Stmt := inClass (top 15) 25
theorem sc_ladder_walk : FnScope ["self", "last", "places", "level", "spot", "reach"] ["self", "last"] (defScope s_ladder_walk) := ⟨rfl, rfl, rfl, by decide +kernel, rfl, by decide +kernel, by decide +kernel⟩
abbrev s_poured : Stmt := top 17
theorem sc_poured : FnScope ["ladder", "other", "numbers", "number"] ["ladder", "other"] (defScope s_poured) := ⟨rfl, rfl, rfl, by decide +kernel, rfl, by decide +kernel, by decide +kernel⟩
abbrev s_l_whole : Stmt := top 19
theorem sc_l_whole : FnScope ["_law_found"] ["_law_found"] (defScope s_l_whole) := ⟨rfl, rfl, rfl, by decide +kernel, rfl, by decide +kernel, by decide +kernel⟩
abbrev s_l_cell_at : Stmt := top 20
theorem sc_l_cell_at : FnScope ["_law_script", "_law_k"] ["_law_script", "_law_k"] (defScope s_l_cell_at) := ⟨rfl, rfl, rfl, by decide +kernel, rfl, by decide +kernel, by decide +kernel⟩
abbrev s_l_refused_by_any : Stmt := top 21
theorem sc_l_refused_by_any : FnScope ["_law_width", "_law_high", "e"] ["_law_width", "_law_high"] (defScope s_l_refused_by_any) := ⟨rfl, rfl, rfl, by decide +kernel, rfl, by decide +kernel, by decide +kernel⟩
abbrev s_l_refused : Stmt := top 22
theorem sc_l_refused : FnScope ["_law_width", "_law_high"] ["_law_width", "_law_high"] (defScope s_l_refused) := ⟨rfl, rfl, rfl, by decide +kernel, rfl, by decide +kernel, by decide +kernel⟩
abbrev s_l_asked : Stmt := top 23
theorem sc_l_asked : FnScope ["_law_way", "_law_ladder", "_law_far"] ["_law_way", "_law_ladder", "_law_far"] (defScope s_l_asked) := ⟨rfl, rfl, rfl, by decide +kernel, rfl, by decide +kernel, by decide +kernel⟩
abbrev s_l_kinds : Stmt := top 24
theorem sc_l_kinds : FnScope ["_law_way", "_law_ladder", "_law_far", "e", "_law_kinds_here"] ["_law_way", "_law_ladder", "_law_far"] (defScope s_l_kinds) := ⟨rfl, rfl, rfl, by decide +kernel, rfl, by decide +kernel, by decide +kernel⟩
abbrev s_l_no_place : Stmt := top 25
theorem sc_l_no_place : FnScope ["_law_ladder", "_law_place", "_law_refused_here"] ["_law_ladder", "_law_place"] (defScope s_l_no_place) := ⟨rfl, rfl, rfl, by decide +kernel, rfl, by decide +kernel, by decide +kernel⟩
abbrev s_l_no_level : Stmt := top 26
theorem sc_l_no_level : FnScope ["_law_ladder", "_law_level", "_law_refused_here"] ["_law_ladder", "_law_level"] (defScope s_l_no_level) := ⟨rfl, rfl, rfl, by decide +kernel, rfl, by decide +kernel, by decide +kernel⟩
abbrev s_l_empty : Stmt := top 27
theorem sc_l_empty : FnScope ["_law_ladder", "_law_number", "_law_place", "_law_rows", "_law_row", "_law_found", "_law_level"] ["_law_ladder", "_law_number", "_law_place"] (defScope s_l_empty) := ⟨rfl, rfl, rfl, by decide +kernel, rfl, by decide +kernel, by decide +kernel⟩
abbrev s_law : Stmt := top 28
theorem sc_law : FnScope ["_law_script", "_law_width", "_law_high", "_law_far", "_law_ladder", "_law_limit", "_law_turn", "_law_found", "_law_way", "_law_k"] ["_law_script"] (defScope s_law) := ⟨rfl, rfl, rfl, by decide +kernel, rfl, by decide +kernel, by decide +kernel⟩
abbrev nI (i : Int) : Option V := some (.int i)
abbrev nR (a : Addr) : Option V := some (.ref a)
/-! ### powers -/
theorem pow_pos' {w : Int} (h : 2 ≤ w) (l : Nat) : 0 < w ^ l := Int.pow_pos (by omega)
theorem pow_le9 {w : Int} (h : 2 ≤ w) (h9 : w ≤ 9) : ∀ l : Nat, w ^ l ≤ 9 ^ l
  | 0 => by simp
  | l + 1 => by
    rw [Int.pow_succ, Int.pow_succ]
    have i := pow_le9 h h9 l
    have p := pow_pos' h l
    exact Int.mul_le_mul i h9 (by omega) (by omega)
theorem pow_le12 {w : Int} (h : 2 ≤ w) (h9 : w ≤ 9) {l : Nat} (hl : l ≤ 12) : w ^ l ≤ 282429536481 := by
  have i := pow_le9 h h9 l
  have j : (9 : Int) ^ l ≤ 9 ^ 12 := by
    have := Nat.pow_le_pow_right (n := 9) (by omega) hl
    exact_mod_cast this
  have k : (9 : Int) ^ 12 = 282429536481 := by decide
  omega
theorem div_ok {w : Int} (h : 2 ≤ w) (h9 : w ≤ 9) {l : Nat} (hl : l ≤ 12) (n : Int) : CDivW n (w ^ l) := by
  have p := pow_pos' h l
  have q := pow_le12 h h9 hl
  exact wide_div p (b := 64) (by omega) (by omega) (by omega)
theorem pow_ge2 {w : Int} (h : 2 ≤ w) : ∀ {l : Nat}, 1 ≤ l → 2 ≤ w ^ l
  | l + 1, _ => by
    rw [Int.pow_succ]
    have p := pow_pos' h l
    have := Int.mul_le_mul (show 1 ≤ w ^ l by omega) h (by omega) (by omega)
    omega
/-! ### deep equality of data -/
def dI (ns : List Int) : PyData := .list (ns.map PyData.int)
theorem dpAll_ints {K : PySem.W.Frag} {H : Hp} : ∀ ns : List Int, DpAll K H (ns.map V.int) (ns.map PyData.int)
  | [] => .nil
  | _ :: r => .cons (.int _) (dpAll_ints r)
theorem dp_ints {K : PySem.W.Frag} {H : Hp} {a : Addr} {ns : List Int} (h : SqL K H a (ns.map V.int)) : Dp K H (.ref a) (dI ns) := .lst h (dpAll_ints ns)
theorem canLay_ints : ∀ ns : List Int, PyData.canLayAll0 (ns.map PyData.int) = true
  | [] => rfl
  | _ :: r => canLay_ints r
theorem depth_ints : ∀ ns : List Int, PyData.depthAll (ns.map PyData.int) = 0
  | [] => rfl
  | _ :: r => by
    show max 0 (PyData.depthAll (r.map PyData.int)) = 0
    rw [depth_ints r]
    rfl
theorem shaped_ints (ns : List Int) : SeqAt.shaped (dI ns) = true := by
  unfold SeqAt.shaped dI
  have h1 : (PyData.list (ns.map PyData.int)).canLay0 = true := canLay_ints ns
  have h2 : (PyData.list (ns.map PyData.int)).depth = 1 := by
    show PyData.depthAll (ns.map PyData.int) + 1 = 1
    rw [depth_ints]
  rw [h1, h2]
  rfl
/-- two lists of the same ints are equal -/
theorem eqD_ints {K : PySem.W.Frag} {H : Hp} {a b : Addr} {ns ms : List Int} {Q : VK} (ha : SqL K H a (ns.map V.int)) (hb : SqL K H b (ms.map V.int)) (e : ns = ms) (q : Q (.bl true) H) : rEqD K (.ref a) (.ref b) H Q := by
  subst e
  refine ⟨dI ns, dI ns, dp_ints ha, dp_ints hb, shaped_ints ns, shaped_ints ns, ?_⟩
  rw [SeqAt.eqv_refl _ (SeqAt.canLay_of_shaped (shaped_ints ns))]
  exact q
/-! ### heaps -/
theorem same_upd {H : Hp} {p : Addr} {o : HO} (h : H p = none) : Same H (upd H p o) := fun b x e => by
  rw [upd_ne (ne_of_none e h)]
  exact e
theorem same_mut {H0 H : Hp} {p : Addr} {o : HO} (s : Same H0 H) (h : H0 p = none) : Same H0 (upd H p o) := fun b x e => by
  rw [upd_ne (ne_of_none e h)]
  exact s _ _ e
/-! ### from what a reading evaluates to, to the reading -/
theorem ev_use {te : TE} {σ : L2.St} {H : Hp} {v : V} {Q : VK} (h : Evl.Ev te σ H v) (k : ∀ H2, Same H H2 → Q v H2) : te σ H Q := h H (Evl.Ex.refl H) Q k
theorem evT_use {t : TT} {σ : L2.St} {H : Hp} {b : Bool} {Q : Bool → Hp → Prop} (h : Evl.EvT t σ H b) (k : ∀ H2, Same H H2 → Q b H2) : t σ H Q := h H (Evl.Ex.refl H) Q k
theorem evL_use {te : TE} {σ : L2.St} {H : Hp} {xs : List V} {Q : VK} (h : Evl.EvL te σ H xs) (k : ∀ p H2, H p = none → Same H H2 → H2 p = some (.lst xs) → Q (.ref p) H2) : te σ H Q := h H (Evl.Ex.refl H) Q k
/-- a built-in over a new list -/
theorem ev_cbL {r : List V → Hp → VK → Prop} {ta : TE} {σ : L2.St} {H : Hp} {xs : List V} {z : V} (h : Evl.EvL ta σ H xs) (hr : ∀ p H1, H1 p = some (.lst xs) → ∀ Q : VK, Q z H1 → r [.ref p] H1 Q) : Evl.Ev (tCB r (tCons ta tNil)) σ H z := fun H1 e Q q =>
  h H1 e _ fun p H2 _ e2 h2 => hr p H2 h2 Q (q H2 e2)
theorem et_yes {σ : L2.St} {H : Hp} : Evl.EvT tYes σ H true := fun H1 _ _ q => q H1 (Evl.Ex.refl H1)
theorem given_true (n : Nat) (v : V) : Evl.given n (fun _ => true) (fun _ => v) = List.replicate n v := by
  unfold Evl.given
  rw [List.filter_eq_self.mpr (fun _ _ => rfl), List.map_const', List.length_range]
/-- all([g(x) for x in xs]) where g tells True of each -/
theorem ev_allL {K : PySem.W.Frag} {te : TE} {σ : L2.St} {H : Hp} {n : Nat} (h : Evl.EvL te σ H (Evl.given n (fun _ => true) (fun _ => V.bl true))) : Evl.Ev (tCB (rAll K) (tCons te tNil)) σ H (.bl true) := ev_cbL h fun p H1 hp Q q => by
  rw [given_true, show List.replicate n (V.bl true) = (List.replicate n true).map V.bl by rw [List.map_replicate]] at hp
  refine ⟨p, _, rfl, SqL.of hp, ?_⟩
  rw [show (List.replicate n true).all id = true by rw [List.all_replicate]; simp]
  exact q
/-- an if of two tests, the first one by what it evaluates to -/
theorem s_and {t u : TT} {tu : TS} {D : Ends} {σ : L2.St} {H : Hp} {a : Bool} (h : Evl.EvT t σ H a) (k1 : a = true → ∀ H1, Same H H1 → u σ H1 fun c H2 => if c = true then tu D σ H2 else D.nx σ H2) (k0 : a = false → ∀ H1, Same H H1 → D.nx σ H1) : tIfS (tAnd t u) tu tNext D σ H :=
  h H (Evl.Ex.refl H) _ fun H1 e => by
    cases a with
    | true => exact k1 rfl H1 e
    | false => exact k0 rfl H1 e
/-! what stands on a level: those of a row whose block is not that of the one ahead of them -/
def thinP (s : Int) (f : Nat → Int) (k : Nat) : Bool := decide (k = 0) || !decide (f (k - 1) / s = f k / s)
def thinF (s : Int) (f : Nat → Int) (m : Nat) : List Int := ((List.range m).filter (thinP s f)).map f
theorem thinF_zero (s : Int) (f : Nat → Int) : thinF s f 0 = [] := rfl
theorem thinF_yes {s : Int} {f : Nat → Int} {m : Nat} (h : thinP s f m = true) : thinF s f (m + 1) = thinF s f m ++ [f m] := by
  unfold thinF
  rw [List.range_succ, List.filter_append, List.map_append, List.filter_cons, if_pos h]
  rfl
theorem thinF_no {s : Int} {f : Nat → Int} {m : Nat} (h : ¬ thinP s f m = true) : thinF s f (m + 1) = thinF s f m := by
  unfold thinF
  rw [List.range_succ, List.filter_append, List.map_append, List.filter_cons, if_neg h]
  exact List.append_nil _
theorem thinF_len (s : Int) (f : Nat → Int) (m : Nat) : (thinF s f m).length ≤ m := by
  unfold thinF
  rw [List.length_map]
  have h := List.length_filter_le (thinP s f) (List.range m)
  rw [List.length_range] at h
  exact h
theorem thin_last (s : Int) (f : Nat → Int) : ∀ m : Nat, ∃ (i : List Int) (z : Int), thinF s f (m + 1) = i ++ [z] ∧ z / s = f m / s
  | 0 => ⟨[], f 0, thinF_yes rfl, rfl⟩
  | m + 1 => by
    by_cases h : thinP s f (m + 1) = true
    · exact ⟨thinF s f (m + 1), f (m + 1), thinF_yes h, rfl⟩
    · obtain ⟨i, z, e, ez⟩ := thin_last s f m
      refine ⟨i, z, by rw [thinF_no h, e], ?_⟩
      rw [ez]
      unfold thinP at h
      simp at h
      exact h
def sp_thinned (K : PySem.W.Frag) : Sp := fun vs H Q _ => ∃ (wd : Int) (l : Nat) (a : Addr) (row : List Int), vs = [.int wd, .int (l : Int), .ref a] ∧ 2 ≤ wd ∧ wd ≤ 9 ∧ l ≤ 12 ∧ SqL K H a (row.map V.int) ∧ row.length ≤ 1000 ∧
  ∀ H' p, Same H H' → H p = none → H' p = some (.lst ((thinF (wd ^ l) (fun k => row.getD k 0) row.length).map V.int)) → Q (.ref p) H'
/-! ### equality of lists of ints, as a value -/
theorem eqvAll_ints : ∀ ns ms : List Int, PyData.eqvAll (ns.map PyData.int) (ms.map PyData.int) = decide (ns = ms)
  | [], [] => rfl
  | [], _ :: _ => rfl
  | _ :: _, [] => rfl
  | a :: ns, b :: ms => by
    show (PyData.eqv (.int a) (.int b) && PyData.eqvAll (ns.map PyData.int) (ms.map PyData.int)) = decide (a :: ns = b :: ms)
    rw [eqvAll_ints ns ms]
    show ((a == b) && decide (ns = ms)) = decide (a :: ns = b :: ms)
    by_cases h1 : a = b
    · subst h1
      by_cases h2 : ns = ms
      · subst h2
        simp
      · simp [h2]
    · simp [h1]
theorem eqv_dI (ns ms : List Int) : PyData.eqv (dI ns) (dI ms) = decide (ns = ms) := eqvAll_ints ns ms
theorem rv_eqI {K : PySem.W.Frag} {H : Hp} {a b : Addr} {ns ms : List Int} (ha : SqL K H a (ns.map V.int)) (hb : SqL K H b (ms.map V.int)) : Evl.RV (rEqD K) (.ref a) (.ref b) H (.bl (decide (ns = ms))) := fun H1 e Q q =>
  ⟨dI ns, dI ms, dp_ints (Evl.ex_l e ha), dp_ints (Evl.ex_l e hb), shaped_ints ns, shaped_ints ms, by
    rw [eqv_dI]
    exact q H1 (Evl.Ex.refl H1)⟩
theorem rv_neI {K : PySem.W.Frag} {H : Hp} {a b : Addr} {ns ms : List Int} (ha : SqL K H a (ns.map V.int)) (hb : SqL K H b (ms.map V.int)) : Evl.RV (rNeD K) (.ref a) (.ref b) H (.bl (!decide (ns = ms))) := fun H1 e Q q =>
  ⟨dI ns, dI ms, dp_ints (Evl.ex_l e ha), dp_ints (Evl.ex_l e hb), shaped_ints ns, shaped_ints ms, by
    rw [eqv_dI]
    exact q H1 (Evl.Ex.refl H1)⟩
/-- x in a list of ints -/
theorem inV_ints (x : Int) : ∀ ns : List Int, inV (.int x) (ns.map V.int) = decide (x ∈ ns)
  | [] => rfl
  | a :: ns => by
    show (eqV (.int a) (.int x) || inV (.int x) (ns.map V.int)) = decide (x ∈ a :: ns)
    rw [inV_ints x ns]
    show ((a == x) || decide (x ∈ ns)) = decide (x ∈ a :: ns)
    by_cases h1 : a = x
    · subst h1
      simp
    · have h2 : ¬ x = a := fun z => h1 z.symm
      simp [h1, h2]
theorem flat_ints (ns : List Int) : (ns.map V.int).all flatV = true := by
  rw [List.all_map]
  exact List.all_eq_true.mpr fun _ _ => rfl
theorem rv_inI {K : PySem.W.Frag} {H : Hp} {a : Addr} {ns : List Int} {x : Int} (ha : SqL K H a (ns.map V.int)) : Evl.RV (rIn K false) (.int x) (.ref a) H (.bl (decide (x ∈ ns))) := by
  rw [← inV_ints]
  exact Evl.rv_isL ha rfl (flat_ints ns)
theorem rv_niI {K : PySem.W.Frag} {H : Hp} {a : Addr} {ns : List Int} {x : Int} (ha : SqL K H a (ns.map V.int)) : Evl.RV (rIn K true) (.int x) (.ref a) H (.bl (!decide (x ∈ ns))) := by
  rw [← inV_ints]
  exact Evl.rv_niL ha rfl (flat_ints ns)
/-- two data that are the same -/
theorem eqD_same {K : PySem.W.Frag} {H : Hp} {x y : V} {d : PyData} {Q : VK} (hx : Dp K H x d) (hy : Dp K H y d) (sd : SeqAt.shaped d = true) (q : Q (.bl true) H) : rEqD K x y H Q := ⟨d, d, hx, hy, sd, sd, by
  rw [SeqAt.eqv_refl _ (SeqAt.canLay_of_shaped sd)]
  exact q⟩
theorem neD_same {K : PySem.W.Frag} {H : Hp} {x y : V} {d : PyData} {Q : VK} (hx : Dp K H x d) (hy : Dp K H y d) (sd : SeqAt.shaped d = true) (q : Q (.bl false) H) : rNeD K x y H Q := ⟨d, d, hx, hy, sd, sd, by
  rw [SeqAt.eqv_refl _ (SeqAt.canLay_of_shaped sd)]
  exact q⟩
theorem neD_ints {K : PySem.W.Frag} {H : Hp} {a b : Addr} {ns ms : List Int} {Q : VK} (ha : SqL K H a (ns.map V.int)) (hb : SqL K H b (ms.map V.int)) (e : ns = ms) (q : Q (.bl false) H) : rNeD K (.ref a) (.ref b) H Q := by
  subst e
  exact neD_same (dp_ints ha) (dp_ints hb) (shaped_ints ns) q
/-! ### comprehensions over a list of ints -/
theorem getD_map_int (ns : List Int) (i : Nat) (h : i < ns.length) : (ns.map V.int).getD i .non = .int (ns.getD i 0) := by
  rw [List.getD_eq_getElem?_getD, List.getD_eq_getElem?_getD, List.getElem?_map, List.getElem?_eq_getElem h]
  rfl
theorem range_getD (ns : List Int) : (List.range ns.length).map (fun k => ns.getD k 0) = ns := by
  refine List.ext_getElem (by rw [List.length_map, List.length_range]) fun i h1 h2 => ?_
  rw [List.getElem_map, List.getElem_range, List.getD_eq_getElem?_getD, List.getElem?_eq_getElem h2]
  rfl
theorem given_ints {α : Type} (ns : List Int) (p : Int → Bool) (f : Int → V) : Evl.given ns.length (fun k => p (ns.getD k 0)) (fun k => f (ns.getD k 0)) = (ns.filter p).map f := by
  have e : ns.filter p = ((List.range ns.length).filter fun k => p (ns.getD k 0)).map fun k => ns.getD k 0 := by
    have h := List.filter_map (p := p) (f := fun k => ns.getD k 0) (l := List.range ns.length)
    rw [range_getD] at h
    exact h
  unfold Evl.given
  rw [e, List.map_map]
  rfl
theorem int_at {ns : List Int} {i : Nat} {x : V} (h : (ns.map V.int)[i]? = some x) : i < ns.length ∧ x = .int (ns.getD i 0) ∧ ns.getD i 0 ∈ ns := by
  have hi := (List.getElem?_eq_some_iff.mp h).1
  rw [List.length_map] at hi
  rw [List.getElem?_map, List.getElem?_eq_getElem hi] at h
  rw [List.getD_eq_getElem?_getD, List.getElem?_eq_getElem hi]
  exact ⟨hi, (Option.some.inj h).symm, List.getElem_mem hi⟩
/-- [f(x) for x in xs if p(x)] over a list of ints -/
theorem el_ints {K : PySem.W.Frag} {σ : L2.St} {H : Hp} {tl te : TE} {t : TT} {a : Addr} {ns : List Int} {j : Nat} {vs : List Nat} (p : Int → Bool) (f : Int → V) (h : Evl.Ev tl σ H (.ref a)) (hx : SqL K H a (ns.map V.int)) (hz : ns.length ≤ 40000)
    (hw : ∀ x, wipe ((wipe σ vs).set j (some x)) vs = wipe σ vs) (ht : ∀ x ∈ ns, ∀ H1, Same H H1 → Evl.EvT t ((wipe σ vs).set j (some (.int x))) H1 (p x))
    (he : ∀ x ∈ ns, ∀ H1, Same H H1 → p x = true → Evl.Ev te ((wipe σ vs).set j (some (.int x))) H1 (f x)) : Evl.EvL (tLc (iList K tl) (gName j) t te vs) σ H ((ns.filter p).map f) := by
  rw [← given_ints (α := Unit) ns p f]
  have hl : (ns.map V.int).length = ns.length := List.length_map ..
  rw [← hl]
  refine Evl.el_lcL (fun k => p (ns.getD k 0)) (fun k => f (ns.getD k 0)) h hx (by rw [hl]; exact hz) hw (fun i x H1 e1 hi => ?_) (fun i x H1 e1 hi hp => ?_)
  · obtain ⟨_, rfl, m⟩ := int_at hi
    exact ht _ m H1 e1
  · obtain ⟨_, rfl, m⟩ := int_at hi
    exact he _ m H1 e1 hp
/-- [x for x in xs if p(x)] -/
theorem el_fil {K : PySem.W.Frag} {σ : L2.St} {H : Hp} {tl te : TE} {t : TT} {a : Addr} {ns : List Int} {j : Nat} {vs : List Nat} (p : Int → Bool) (h : Evl.Ev tl σ H (.ref a)) (hx : SqL K H a (ns.map V.int)) (hz : ns.length ≤ 40000)
    (hw : ∀ x, wipe ((wipe σ vs).set j (some x)) vs = wipe σ vs) (ht : ∀ x ∈ ns, ∀ H1, Same H H1 → Evl.EvT t ((wipe σ vs).set j (some (.int x))) H1 (p x))
    (he : ∀ x ∈ ns, ∀ H1, Same H H1 → p x = true → Evl.Ev te ((wipe σ vs).set j (some (.int x))) H1 (.int x)) : Evl.EvL (tLc (iList K tl) (gName j) t te vs) σ H ((ns.filter p).map V.int) := el_ints p V.int h hx hz hw ht he
/-! ### the law's comprehension of what stands on a level -/
def dueQ (s : Int) (f : Nat → Int) (k : Nat) : Bool := decide (V.int (k : Int) = V.int 0) || decide (f (k - 1) / s < f k / s)
theorem due_thinF {s : Int} (hs : 0 < s) {f : Nat → Int} {m : Nat} (hf : ∀ j, j + 1 < m → f j ≤ f (j + 1)) : (Evl.given m (dueQ s f) fun k => V.int (f k)) = (thinF s f m).map V.int := by
  unfold Evl.given thinF
  rw [List.map_map]
  have e1 : (List.range m).filter (dueQ s f) = (List.range m).filter (thinP s f) := by
    refine List.filter_congr fun k hk => ?_
    have hk' := List.mem_range.mp hk
    unfold dueQ thinP
    cases k with
    | zero => rfl
    | succ j =>
      have d1 : decide (V.int ((j + 1 : Nat) : Int) = V.int 0) = false := decide_eq_false fun z => by
        have := V.int.inj z
        omega
      have d2 : decide (j + 1 = 0) = false := rfl
      rw [d1, d2, Bool.false_or, Bool.false_or]
      show decide (f j / s < f (j + 1) / s) = !decide (f j / s = f (j + 1) / s)
      have le : f j / s ≤ f (j + 1) / s := Int.ediv_le_ediv hs (hf j hk')
      by_cases e : f j / s = f (j + 1) / s
      · rw [decide_eq_true e, decide_eq_false (by omega)]
        rfl
      · rw [decide_eq_false e, decide_eq_true (by omega)]
        rfl
  rw [e1]
  rfl
theorem rise_getD {xs : List Int} (h : xs.Pairwise (· < ·)) {i j : Nat} (hij : i < j) (hj : j < xs.length) : xs.getD i 0 < xs.getD j 0 := by
  rw [List.getD_eq_getElem?_getD, List.getD_eq_getElem?_getD, List.getElem?_eq_getElem hj, List.getElem?_eq_getElem (by omega)]
  exact List.pairwise_iff_getElem.mp h i j (by omega) hj hij
/-- the sizes: 1, w, w * w .. -/
def sizes (w : Int) (m : Nat) : List Int := (List.range m).map fun l => w ^ l
theorem sizes_succ (w : Int) (m : Nat) : sizes w (m + 1) = sizes w m ++ [w ^ m] := by
  unfold sizes
  rw [List.range_succ, List.map_append]
  rfl
theorem sizes_len (w : Int) (m : Nat) : (sizes w m).length = m := by
  unfold sizes
  rw [List.length_map, List.length_range]
theorem sizes_lenV (w : Int) (m : Nat) : ((sizes w m).map V.int).length = m := by rw [List.length_map, sizes_len]
theorem sizes_get (w : Int) {m l : Nat} (h : l < m) : ((sizes w m).map V.int)[l]? = some (.int (w ^ l)) := by
  unfold sizes
  rw [List.map_map, List.getElem?_map, List.getElem?_range h]
  rfl
/-- the law's numbers -/
def lawNum (c lim : Int) : Int := if c % 4 = 0 then c / 4 % lim else if c % 4 = 1 then c / 4 % (if 30 < lim then 30 else lim) else if c % 4 = 2 then lim - 1 - c / 4 % (if 30 < lim then 30 else lim) else c / 4 * 48271 % lim
theorem lawNum_in {c lim : Int} (h : 1 ≤ lim) : 0 ≤ lawNum c lim ∧ lawNum c lim < lim := by
  have a1 := Int.emod_nonneg (c / 4) (show lim ≠ 0 by omega)
  have a2 := Int.emod_lt_of_pos (c / 4) (show 0 < lim by omega)
  have b1 := Int.emod_nonneg (c / 4 * 48271) (show lim ≠ 0 by omega)
  have b2 := Int.emod_lt_of_pos (c / 4 * 48271) (show 0 < lim by omega)
  have c0 : 0 < (if 30 < lim then 30 else lim) ∧ (if 30 < lim then 30 else lim) ≤ lim := by split <;> omega
  have c1 := Int.emod_nonneg (c / 4) (show (if 30 < lim then 30 else lim) ≠ 0 by omega)
  have c2 := Int.emod_lt_of_pos (c / 4) c0.1
  unfold lawNum
  split
  · exact ⟨a1, a2⟩
  · split
    · exact ⟨c1, by omega⟩
    · split
      · exact ⟨by omega, by omega⟩
      · exact ⟨b1, b2⟩
theorem iteNT {c A B : Prop} [Decidable c] (hc : ¬ c) (h : A) : if (!decide c) = true then A else B := by
  rw [decide_eq_false hc]
  exact iteT h
theorem depthAll_le {k : Nat} : ∀ {ds : List PyData}, (∀ d ∈ ds, d.depth ≤ k) → PyData.depthAll ds ≤ k
  | [], _ => Nat.zero_le _
  | d :: ds, h => by
    show max d.depth (PyData.depthAll ds) ≤ k
    have h1 := h d List.mem_cons_self
    have h2 := depthAll_le (ds := ds) fun x hx => h x (List.mem_cons_of_mem _ hx)
    omega
theorem canLayAll_of : ∀ {ds : List PyData}, (∀ d ∈ ds, d.canLay0 = true) → PyData.canLayAll0 ds = true
  | [], _ => rfl
  | d :: ds, h => by
    show (d.canLay0 && PyData.canLayAll0 ds) = true
    rw [h d List.mem_cons_self, canLayAll_of fun x hx => h x (List.mem_cons_of_mem _ hx)]
    rfl
theorem shaped_list {ds : List PyData} (k : Nat) (h : ∀ d ∈ ds, d.canLay0 = true ∧ d.depth ≤ k) (hk : k + 1 ≤ 64) : SeqAt.shaped (.list ds) = true := by
  unfold SeqAt.shaped
  have h1 : (PyData.list ds).canLay0 = true := canLayAll_of fun d hd => (h d hd).1
  have h2 : (PyData.list ds).depth ≤ k + 1 := Nat.succ_le_succ (depthAll_le fun d hd => (h d hd).2)
  rw [h1, decide_eq_true (by omega)]
  rfl
/-! ### data that stands in the heap as a whole -/
mutual
inductive Dh (H : Hp) : V → PyData → Prop
  | non : Dh H .non .none
  | bl (b : Bool) : Dh H (.bl b) (.bool b)
  | int (i : Int) : Dh H (.int i) (.int i)
  | lst {a : Addr} {xs : List V} {ds : List PyData} (e : H a = some (.lst xs)) (h : DhAll H xs ds) : Dh H (.ref a) (.list ds)
  | tup {a : Addr} {xs : List V} {ds : List PyData} (e : H a = some (.tup xs)) (h : DhAll H xs ds) : Dh H (.ref a) (.tuple ds)
inductive DhAll (H : Hp) : List V → List PyData → Prop
  | nil : DhAll H [] []
  | cons {v : V} {vs : List V} {d : PyData} {ds : List PyData} (h : Dh H v d) (r : DhAll H vs ds) : DhAll H (v :: vs) (d :: ds)
end
mutual
theorem Dh.dp {K : PySem.W.Frag} {H : Hp} : ∀ {v : V} {d : PyData}, Dh H v d → Dp K H v d
  | _, _, .non => .non
  | _, _, .bl b => .bl b
  | _, _, .int i => .int i
  | _, _, .lst e h => .lst (SqL.of e) h.dp
  | _, _, .tup e h => .tup (SqT.of e) h.dp
theorem DhAll.dp {K : PySem.W.Frag} {H : Hp} : ∀ {vs : List V} {ds : List PyData}, DhAll H vs ds → DpAll K H vs ds
  | _, _, .nil => .nil
  | _, _, .cons h r => .cons h.dp r.dp
end
mutual
theorem Dh.same {H H' : Hp} (s : Same H H') : ∀ {v : V} {d : PyData}, Dh H v d → Dh H' v d
  | _, _, .non => .non
  | _, _, .bl b => .bl b
  | _, _, .int i => .int i
  | _, _, .lst e h => .lst (s _ _ e) (h.same s)
  | _, _, .tup e h => .tup (s _ _ e) (h.same s)
theorem DhAll.same {H H' : Hp} (s : Same H H') : ∀ {vs : List V} {ds : List PyData}, DhAll H vs ds → DhAll H' vs ds
  | _, _, .nil => .nil
  | _, _, .cons h r => .cons (h.same s) (r.same s)
end
theorem dhAll_ints (H : Hp) : ∀ ns : List Int, DhAll H (ns.map V.int) (ns.map PyData.int)
  | [] => .nil
  | _ :: r => .cons (.int _) (dhAll_ints H r)
theorem DhAll.len {H : Hp} : ∀ {vs : List V} {ds : List PyData}, DhAll H vs ds → vs.length = ds.length
  | _, _, .nil => rfl
  | _, _, .cons _ r => congrArg (· + 1) r.len
theorem DhAll.get {H : Hp} : ∀ {vs : List V} {ds : List PyData} {i : Nat} {v : V}, DhAll H vs ds → vs[i]? = some v → ∃ d, ds[i]? = some d ∧ Dh H v d
  | _, _, _, _, .nil, e => by simp at e
  | _, _, 0, _, .cons h _, e => ⟨_, rfl, by
    have e2 := Option.some.inj e
    rw [← e2]
    exact h⟩
  | _, _, i + 1, _, .cons _ r, e => r.get (i := i) e
theorem DhAll.snoc {H : Hp} : ∀ {vs : List V} {ds : List PyData} {v : V} {d : PyData}, DhAll H vs ds → Dh H v d → DhAll H (vs ++ [v]) (ds ++ [d])
  | _, _, _, _, .nil, h => .cons h .nil
  | _, _, _, _, .cons h r, h2 => .cons h (r.snoc h2)
/-- None or a number -/
def oV : Option Int → V
  | none => .non
  | some i => .int i
def dO : Option Int → PyData
  | none => .none
  | some i => .int i
theorem dh_o (H : Hp) : ∀ o : Option Int, Dh H (oV o) (dO o)
  | none => .non
  | some i => .int i
/-! ### what a ladder tells: the mirror -/
/-- what stands on a level -/
def levL (w : Int) (l : Nat) (xs : List Int) : List Int := thinF (w ^ l) (fun k => xs.getD k 0) xs.length
def belowO (xs : List Int) (n : Int) : Option Int := (xs.filter fun x => decide (x < n)).getLast?
def aboveO (xs : List Int) (n : Int) : Option Int := (xs.filter fun x => decide (n < x)).head?
/-- n stands on the level l, the lesser ones of xs being there -/
def onLev (w : Int) (xs : List Int) (n : Int) (l : Nat) : Bool := match belowO xs n with
  | none => true
  | some b => decide (b / w ^ l < n / w ^ l)
/-- who else would stand there for it -/
def mateO (w : Int) (xs : List Int) (n : Int) (l : Nat) : Option Int := match aboveO xs n with
  | none => none
  | some g => if g / w ^ l = n / w ^ l then some g else none
def dCh (l : Nat) (a b : Option Int) : PyData := .tuple [.int (l : Int), dO a, dO b]
def chPut (w : Int) (h : Nat) (xs : List Int) (n : Int) : List PyData := ((List.range (h + 1)).filter (onLev w xs n)).map fun l => dCh l (some n) (mateO w xs n l)
def chTake (w : Int) (h : Nat) (xs : List Int) (n : Int) : List PyData := ((List.range (h + 1)).filter (onLev w xs n)).map fun l => dCh l (mateO w xs n l) (some n)
def insR (n : Int) (xs : List Int) : List Int := (xs.filter fun x => decide (x < n)) ++ n :: xs.filter fun x => decide (n < x)
structure RowOk (w : Int) (h : Nat) (xs : List Int) : Prop where
  w2 : 2 ≤ w
  w9 : w ≤ 9
  h1 : 1 ≤ h
  h12 : h ≤ 12
  rise : xs.Pairwise (· < ·)
  lo : ∀ x ∈ xs, 0 ≤ x
  hi : ∀ x ∈ xs, x < w ^ h
theorem mem_insR {n x : Int} {xs : List Int} : x ∈ insR n xs ↔ x = n ∨ (x ∈ xs ∧ x ≠ n) := by
  unfold insR
  rw [List.mem_append, List.mem_cons, List.mem_filter, List.mem_filter, decide_eq_true_iff, decide_eq_true_iff]
  constructor
  · rintro (⟨h1, h2⟩ | h | ⟨h1, h2⟩)
    · exact .inr ⟨h1, by omega⟩
    · exact .inl h
    · exact .inr ⟨h1, by omega⟩
  · rintro (h | ⟨h1, h2⟩)
    · exact .inr (.inl h)
    · by_cases c : x < n
      · exact .inl ⟨h1, c⟩
      · exact .inr (.inr ⟨h1, by omega⟩)
theorem insR_rise {n : Int} {xs : List Int} (h : xs.Pairwise (· < ·)) : (insR n xs).Pairwise (· < ·) := by
  unfold insR
  rw [List.pairwise_append, List.pairwise_cons]
  refine ⟨h.filter _, ⟨fun y hy => of_decide_eq_true (List.mem_filter.mp hy).2, h.filter _⟩, fun a ha b hb => ?_⟩
  have a1 : a < n := of_decide_eq_true (List.mem_filter.mp ha).2
  rcases List.mem_cons.mp hb with e | hb
  · omega
  · have b1 : n < b := of_decide_eq_true (List.mem_filter.mp hb).2
    omega
theorem RowOk.ins {w : Int} {h : Nat} {xs : List Int} {n : Int} (o : RowOk w h xs) (h0 : 0 ≤ n) (h1 : n < w ^ h) : RowOk w h (insR n xs) :=
  ⟨o.w2, o.w9, o.h1, o.h12, insR_rise o.rise, fun x hx => by
    rcases mem_insR.mp hx with e | ⟨hx, _⟩
    · omega
    · exact o.lo x hx, fun x hx => by
    rcases mem_insR.mp hx with e | ⟨hx, _⟩
    · omega
    · exact o.hi x hx⟩
theorem insR_perm {n : Int} {xs : List Int} (h : n ∉ xs) : (insR n xs).Perm (n :: xs) := by
  unfold insR
  have h1 : (xs.filter fun x => decide (n < x)) = xs.filter fun x => !decide (x < n) := List.filter_congr fun x hx => by
    have : x ≠ n := fun e => h (e ▸ hx)
    by_cases c : x < n
    · rw [decide_eq_true c, decide_eq_false (by omega)]
      rfl
    · rw [decide_eq_false c, decide_eq_true (by omega)]
      rfl
  rw [h1]
  exact List.perm_middle.trans (List.Perm.cons n (List.filter_append_perm _ _))
theorem insR_len {n : Int} {xs : List Int} (h : n ∉ xs) : (insR n xs).length = xs.length + 1 := (insR_perm h).length_eq
def remR (n : Int) (xs : List Int) : List Int := xs.filter fun x => !decide (x = n)
theorem mem_remR {n x : Int} {xs : List Int} : x ∈ remR n xs ↔ x ∈ xs ∧ x ≠ n := by
  unfold remR
  rw [List.mem_filter, Bool.not_eq_true', decide_eq_false_iff_not]
theorem RowOk.rem {w : Int} {h : Nat} {xs : List Int} {n : Int} (o : RowOk w h xs) : RowOk w h (remR n xs) :=
  ⟨o.w2, o.w9, o.h1, o.h12, o.rise.filter _, fun x hx => o.lo x (mem_remR.mp hx).1, fun x hx => o.hi x (mem_remR.mp hx).1⟩
theorem remR_len (n : Int) (xs : List Int) : (remR n xs).length ≤ xs.length := List.length_filter_le _ _
/-! ### the program's ladder, as far as a law asks -/
def methods : List Str := ["put", "take", "has", "row", "level", "ahead", "trail", "below", "above", "place", "at", "way", "stretch", "counted"]
structure Rep (K : PySem.W.Frag) (C : Addr) where
  Lad : Hp → Addr → Int → Nat → List Int → (Addr → Prop) → Prop
  ins : ∀ {H : Hp} {p : Addr} {w : Int} {h : Nat} {xs : List Int} {F : Addr → Prop}, Lad H p w h xs F → ∃ (dx : Addr) (fs : List (Str × V)), H p = some (.ins C dx fs) ∧ fs.lookup ("width" : Str) = some (.int w) ∧ fs.lookup ("high" : Str) = some (.int (h : Int)) ∧
    fs.lookup ("limit" : Str) = some (.int (w ^ h)) ∧ fs.lookup ("many" : Str) = some (.int (xs.length : Int)) ∧ ∀ m ∈ methods, fs.lookup m = none
  ok : ∀ {H : Hp} {p : Addr} {w : Int} {h : Nat} {xs : List Int} {F : Addr → Prop}, Lad H p w h xs F → RowOk w h xs
  stay : ∀ {H H' : Hp} {p : Addr} {w : Int} {h : Nat} {xs : List Int} {F : Addr → Prop}, Lad H p w h xs F → (∀ b o, F b → H b = some o → H' b = some o) → Lad H' p w h xs F
  there : ∀ {H : Hp} {p : Addr} {w : Int} {h : Nat} {xs : List Int} {F : Addr → Prop}, Lad H p w h xs F → ∀ b, F b → ∃ o, H b = some o
theorem Rep.same {K : PySem.W.Frag} {C : Addr} (R : Rep K C) {H H' : Hp} {p : Addr} {w : Int} {h : Nat} {xs : List Int} {F : Addr → Prop} (l : R.Lad H p w h xs F) (s : Same H H') : R.Lad H' p w h xs F := R.stay l fun b o _ e => s b o e
/-- the law's own view G of the heap H, beside the ladder at p -/
structure View {K : PySem.W.Frag} {C : Addr} (R : Rep K C) (G H : Hp) (p : Addr) (w : Int) (h : Nat) (xs : List Int) (F : Addr → Prop) : Prop where
  lad : R.Lad H p w h xs F
  sub : Same G H
  out : ∀ b, F b → G b = none
section
variable {K : PySem.W.Frag} {C : Addr} {R : Rep K C} {G H H' : Hp} {p : Addr} {w : Int} {h : Nat} {xs : List Int} {F : Addr → Prop}
/-- what is new to the heap is none of the ladder's -/
theorem View.notF (v : View R G H p w h xs F) {b : Addr} (n : H b = none) : ¬ F b := fun f => by
  obtain ⟨o, e⟩ := R.there v.lad b f
  rw [n] at e
  cases e
/-- a new object of the law's own -/
theorem View.new (v : View R G H p w h xs F) {b : Addr} {o : HO} (n : H b = none) : View R (upd G b o) (upd H b o) p w h xs F :=
  ⟨R.same v.lad (same_upd n), fun c u e => by
    by_cases hc : c = b
    · subst hc
      rw [upd_same] at e ⊢
      exact e
    · rw [upd_ne hc] at e ⊢
      exact v.sub c u e, fun c f => by
    have hc : c ≠ b := fun z => v.notF n (z ▸ f)
    rw [upd_ne hc]
    exact v.out c f⟩
/-- an object of the law's own is changed -/
theorem View.mut (v : View R G H p w h xs F) {b : Addr} {o u : HO} (e : G b = some u) : View R (upd G b o) (upd H b o) p w h xs F := by
  have nf : ∀ c, F c → c ≠ b := fun c f z => by
    have q := v.out c f
    rw [z, e] at q
    cases q
  refine ⟨R.stay v.lad fun c x f hx => by rw [upd_ne (nf c f)]; exact hx, fun c x hx => ?_, fun c f => by rw [upd_ne (nf c f)]; exact v.out c f⟩
  by_cases hc : c = b
  · subst hc
    rw [upd_same] at hx ⊢
    exact hx
  · rw [upd_ne hc] at hx ⊢
    exact v.sub c x hx
/-- the heap has grown: what of it is seen -/
theorem View.grow (v : View R G H p w h xs F) (s : Same H H') : View R G H' p w h xs F := ⟨R.same v.lad s, v.sub.trans s, v.out⟩
/-- the heap has grown by a new list, which the law keeps -/
theorem View.keep (v : View R G H p w h xs F) (s : Same H H') {b : Addr} {o : HO} (n : H b = none) (e : H' b = some o) : View R (upd G b o) H' p w h xs F :=
  ⟨R.same v.lad s, fun c u hu => by
    by_cases hc : c = b
    · subst hc
      rw [upd_same] at hu
      rw [← hu]
      exact e
    · rw [upd_ne hc] at hu
      exact s c u (v.sub c u hu), fun c f => by
    have hc : c ≠ b := fun z => v.notF n (z ▸ f)
    rw [upd_ne hc]
    exact v.out c f⟩
end
theorem ch_shape (l : Nat) (a b : Option Int) : (dCh l a b).canLay0 = true ∧ (dCh l a b).depth ≤ 1 := by
  cases a <;> cases b <;> exact ⟨rfl, Nat.le_refl _⟩
theorem shaped_chPut (w : Int) (h : Nat) (xs : List Int) (n : Int) : SeqAt.shaped (.list (chPut w h xs n)) = true := shaped_list 1 (fun d hd => by
  obtain ⟨l, _, rfl⟩ := List.mem_map.mp hd
  exact ch_shape _ _ _) (by decide)
theorem shaped_chTake (w : Int) (h : Nat) (xs : List Int) (n : Int) : SeqAt.shaped (.list (chTake w h xs n)) = true := shaped_list 1 (fun d hd => by
  obtain ⟨l, _, rfl⟩ := List.mem_map.mp hd
  exact ch_shape _ _ _) (by decide)
theorem dh_oV {H : Hp} {v : V} : ∀ {o : Option Int}, Dh H v (dO o) → v = oV o
  | none, .non => rfl
  | some _, .int _ => rfl
theorem dh_ch {H : Hp} {v : V} {l : Nat} {a b : Option Int} (h : Dh H v (dCh l a b)) : ∃ t, v = .ref t ∧ H t = some (.tup [.int (l : Int), oV a, oV b]) := by
  unfold dCh at h
  cases h with
  | tup e r =>
    cases r with
    | cons h1 r =>
      cases r with
      | cons h2 r =>
        cases r with
        | cons h3 r =>
          cases r
          cases h1
          rw [dh_oV h2, dh_oV h3] at e
          exact ⟨_, rfl, e⟩
theorem dhAll_ch {H : Hp} (l : Nat) (a b : Option Int) : DhAll H [.int (l : Int), oV a, oV b] [.int (l : Int), dO a, dO b] := .cons (.int _) (.cons (dh_o H a) (.cons (dh_o H b) .nil))
/-- the empty view -/
theorem View.nothing {K : PySem.W.Frag} {C : Addr} {R : Rep K C} {H : Hp} {p : Addr} {w : Int} {h : Nat} {xs : List Int} {F : Addr → Prop} (l : R.Lad H p w h xs F) : View R (fun _ => none) H p w h xs F := ⟨l, (fun _ _ e => nomatch e), fun _ _ => rfl⟩
/-! ### places in a rising row -/
theorem getD_eq {xs : List Int} {i : Nat} (h : i < xs.length) : xs.getD i 0 = xs[i] := by
  rw [List.getD_eq_getElem?_getD, List.getElem?_eq_getElem h]
  rfl
theorem map_at {xs : List Int} {i : Nat} (h : i < xs.length) : (xs.map V.int)[i]? = some (.int (xs.getD i 0)) := by
  rw [List.getElem?_map, List.getElem?_eq_getElem h, getD_eq h]
  rfl
/-- how many are less -/
def placeN (xs : List Int) (y : Int) : Nat := (xs.filter fun x => decide (x < y)).length
theorem filter_take_drop {α : Type} (p : α → Bool) (xs : List α) (i : Nat) (h1 : ∀ x ∈ xs.take i, p x = false) (h2 : ∀ x ∈ xs.drop i, p x = true) : xs.filter p = xs.drop i := by
  have e := List.take_append_drop i xs
  have h3 : (xs.take i).filter p = [] := List.filter_eq_nil_iff.mpr fun x hx => by rw [h1 x hx]; decide
  have h4 : (xs.drop i).filter p = xs.drop i := List.filter_eq_self.mpr h2
  calc xs.filter p = ((xs.take i) ++ xs.drop i).filter p := by rw [e]
    _ = xs.drop i := by rw [List.filter_append, h3, h4, List.nil_append]
theorem filter_take {α : Type} (p : α → Bool) (xs : List α) (i : Nat) (h1 : ∀ x ∈ xs.take i, p x = true) (h2 : ∀ x ∈ xs.drop i, p x = false) : xs.filter p = xs.take i := by
  have e := List.take_append_drop i xs
  have h3 : (xs.drop i).filter p = [] := List.filter_eq_nil_iff.mpr fun x hx => by rw [h2 x hx]; decide
  have h4 : (xs.take i).filter p = xs.take i := List.filter_eq_self.mpr h1
  calc xs.filter p = ((xs.take i) ++ xs.drop i).filter p := by rw [e]
    _ = xs.take i := by rw [List.filter_append, h3, h4, List.append_nil]
theorem mem_take_at {α : Type} {xs : List α} {i : Nat} {x : α} (h : x ∈ xs.take i) : ∃ j, ∃ hj : j < xs.length, j < i ∧ xs[j] = x := by
  obtain ⟨j, hj, e⟩ := List.mem_iff_getElem.mp h
  rw [List.length_take] at hj
  refine ⟨j, by omega, by omega, ?_⟩
  rw [← e, List.getElem_take]
theorem mem_drop_at {α : Type} {xs : List α} {i : Nat} {x : α} (h : x ∈ xs.drop i) : ∃ j, ∃ hj : j < xs.length, i ≤ j ∧ xs[j] = x := by
  obtain ⟨j, hj, e⟩ := List.mem_iff_getElem.mp h
  rw [List.length_drop] at hj
  refine ⟨i + j, by omega, by omega, ?_⟩
  rw [← e, List.getElem_drop]
theorem filt_lt {xs : List Int} (r : xs.Pairwise (· < ·)) {i : Nat} (h : i < xs.length) : (xs.filter fun x => decide (x < xs.getD i 0)) = xs.take i := by
  refine filter_take _ _ _ (fun x hx => ?_) (fun x hx => ?_)
  · obtain ⟨j, hj, l, rfl⟩ := mem_take_at hx
    have := rise_getD r l h
    rw [getD_eq hj] at this
    exact decide_eq_true this
  · obtain ⟨j, hj, l, rfl⟩ := mem_drop_at hx
    refine decide_eq_false ?_
    by_cases e : i = j
    · subst e
      rw [getD_eq hj]
      omega
    · have := rise_getD r (show i < j by omega) hj
      rw [getD_eq hj] at this
      omega
theorem placeN_at {xs : List Int} (r : xs.Pairwise (· < ·)) {i : Nat} (h : i < xs.length) : placeN xs (xs.getD i 0) = i := by
  unfold placeN
  rw [filt_lt r h, List.length_take]
  omega
theorem place_gap (a b : Int) (h : a ≤ b) : ∀ xs : List Int, placeN xs b = placeN xs a + (xs.filter fun x => decide (a ≤ x) && decide (x < b)).length
  | [] => rfl
  | x :: xs => by
    have ih := place_gap a b h xs
    unfold placeN at ih ⊢
    rw [List.filter_cons, List.filter_cons, List.filter_cons]
    by_cases c1 : x < a
    · rw [decide_eq_true (show x < b by omega), decide_eq_true c1, decide_eq_false (show ¬ a ≤ x by omega)]
      simp only [if_true, Bool.false_and, List.length_cons, Bool.false_eq_true, if_false]
      omega
    · by_cases c2 : x < b
      · rw [decide_eq_true c2, decide_eq_false c1, decide_eq_true (show a ≤ x by omega)]
        simp only [if_true, Bool.true_and, List.length_cons, Bool.false_eq_true, if_false]
        omega
      · rw [decide_eq_false c2, decide_eq_false c1, decide_eq_true (show a ≤ x by omega)]
        simp only [Bool.true_and, Bool.false_eq_true, if_false]
        exact ih
theorem place_rest (a : Int) : ∀ xs : List Int, xs.length = placeN xs a + (xs.filter fun x => decide (a ≤ x)).length
  | [] => rfl
  | x :: xs => by
    have ih := place_rest a xs
    unfold placeN at ih ⊢
    rw [List.filter_cons, List.filter_cons, List.length_cons]
    by_cases c1 : x < a
    · rw [decide_eq_true c1, decide_eq_false (show ¬ a ≤ x by omega)]
      simp only [if_true, List.length_cons, Bool.false_eq_true, if_false]
      omega
    · rw [decide_eq_false c1, decide_eq_true (show a ≤ x by omega)]
      simp only [if_true, List.length_cons, Bool.false_eq_true, if_false]
      omega
/-! ### ahead -/
def nextO (w : Int) (l : Nat) (xs : List Int) (n : Int) : Option Int := ((levL w l xs).filter fun x => decide (n < x)).head?
def gapN (w : Int) (l : Nat) (xs : List Int) (n : Int) : Nat := (xs.filter fun x => decide (n ≤ x) && match nextO w l xs n with | none => true | some b => decide (x < b)).length
/-- the places of those that stand on the level -/
def plac (s : Int) (xs : List Int) : List Nat := (List.range xs.length).filter (thinP s fun k => xs.getD k 0)
theorem levL_plac (w : Int) (l : Nat) (xs : List Int) : levL w l xs = (plac (w ^ l) xs).map fun k => xs.getD k 0 := rfl
theorem plac_rise (s : Int) (xs : List Int) : (plac s xs).Pairwise (· < ·) := List.pairwise_lt_range.filter _
theorem plac_lt {s : Int} {xs : List Int} {k : Nat} (h : k ∈ plac s xs) : k < xs.length := List.mem_range.mp (List.mem_filter.mp h).1
theorem filt_gt {ps : List Nat} (r : ps.Pairwise (· < ·)) {k : Nat} (h : k < ps.length) : (ps.filter fun x => decide (ps[k] < x)) = ps.drop (k + 1) := by
  have rr := List.pairwise_iff_getElem.mp r
  refine filter_take_drop _ _ _ (fun x hx => ?_) (fun x hx => ?_)
  · obtain ⟨j, hj, l, rfl⟩ := mem_take_at hx
    refine decide_eq_false ?_
    by_cases e : j = k
    · subst e
      omega
    · have := rr j k hj h (by omega)
      omega
  · obtain ⟨j, hj, l, rfl⟩ := mem_drop_at hx
    exact decide_eq_true (rr k j h hj (by omega))
theorem next_at {w : Int} {l : Nat} {xs : List Int} (r : xs.Pairwise (· < ·)) {k : Nat} (h : k < (plac (w ^ l) xs).length) : nextO w l xs (xs.getD (plac (w ^ l) xs)[k] 0) = ((plac (w ^ l) xs)[k + 1]?).map fun j => xs.getD j 0 := by
  unfold nextO
  rw [levL_plac, List.filter_map]
  have e : ((plac (w ^ l) xs).filter ((fun x => decide (xs.getD (plac (w ^ l) xs)[k] 0 < x)) ∘ fun k => xs.getD k 0)) = (plac (w ^ l) xs).filter fun x => decide ((plac (w ^ l) xs)[k] < x) := by
    refine List.filter_congr fun j hj => ?_
    have lj := plac_lt hj
    have lk := plac_lt (List.getElem_mem h)
    show decide (xs.getD (plac (w ^ l) xs)[k] 0 < xs.getD j 0) = decide ((plac (w ^ l) xs)[k] < j)
    by_cases c : (plac (w ^ l) xs)[k] < j
    · rw [decide_eq_true c, decide_eq_true (rise_getD r c lj)]
    · rw [decide_eq_false c]
      refine decide_eq_false ?_
      by_cases e : j = (plac (w ^ l) xs)[k]
      · rw [← e]
        omega
      · have := rise_getD r (show j < (plac (w ^ l) xs)[k] by omega) lk
        omega
  rw [e, filt_gt (plac_rise _ _) h, List.head?_map, List.head?_drop]
theorem gap_at {w : Int} {l : Nat} {xs : List Int} (r : xs.Pairwise (· < ·)) {k : Nat} (h : k < (plac (w ^ l) xs).length) : (gapN w l xs (xs.getD (plac (w ^ l) xs)[k] 0) : Int) = (match (plac (w ^ l) xs)[k + 1]? with | none => (xs.length : Int) | some j => (j : Int)) - ((plac (w ^ l) xs)[k] : Int) := by
  have lk := plac_lt (List.getElem_mem h)
  unfold gapN
  rw [next_at r h]
  cases hj : (plac (w ^ l) xs)[k + 1]? with
  | none =>
    have e : (xs.filter fun x => decide (xs.getD (plac (w ^ l) xs)[k] 0 ≤ x) && true) = xs.filter fun x => decide (xs.getD (plac (w ^ l) xs)[k] 0 ≤ x) := List.filter_congr fun x _ => Bool.and_true _
    have z := place_rest (xs.getD (plac (w ^ l) xs)[k] 0) xs
    rw [placeN_at r lk] at z
    show ((xs.filter fun x => decide (xs.getD (plac (w ^ l) xs)[k] 0 ≤ x) && true).length : Int) = (xs.length : Int) - ((plac (w ^ l) xs)[k] : Int)
    rw [e]
    omega
  | some j =>
    obtain ⟨h2, e2⟩ := List.getElem?_eq_some_iff.mp hj
    have lj := plac_lt (List.getElem_mem h2)
    have lt := (List.pairwise_iff_getElem.mp (plac_rise (w ^ l) xs)) k (k + 1) h h2 (by omega)
    rw [e2] at lj lt
    have z := place_gap (xs.getD (plac (w ^ l) xs)[k] 0) (xs.getD j 0) (Int.le_of_lt (rise_getD r lt lj)) xs
    rw [placeN_at r lk, placeN_at r lj] at z
    show ((xs.filter fun x => decide (xs.getD (plac (w ^ l) xs)[k] 0 ≤ x) && decide (x < xs.getD j 0)).length : Int) = (j : Int) - ((plac (w ^ l) xs)[k] : Int)
    omega
theorem due_eq {s : Int} (hs : 0 < s) {f : Nat → Int} {m : Nat} (hf : ∀ j, j + 1 < m → f j ≤ f (j + 1)) : (List.range m).filter (dueQ s f) = (List.range m).filter (thinP s f) := by
  refine List.filter_congr fun k hk => ?_
  have hk' := List.mem_range.mp hk
  unfold dueQ thinP
  cases k with
  | zero => rfl
  | succ j =>
    have d1 : decide (V.int ((j + 1 : Nat) : Int) = V.int 0) = false := decide_eq_false fun z => by
      have := V.int.inj z
      omega
    have d2 : decide (j + 1 = 0) = false := rfl
    rw [d1, d2, Bool.false_or, Bool.false_or]
    show decide (f j / s < f (j + 1) / s) = !decide (f j / s = f (j + 1) / s)
    have le : f j / s ≤ f (j + 1) / s := Int.ediv_le_ediv hs (hf j hk')
    by_cases e : f j / s = f (j + 1) / s
    · rw [decide_eq_true e, decide_eq_false (by omega)]
      rfl
    · rw [decide_eq_false e, decide_eq_true (by omega)]
      rfl
/-- natural numbers as values -/
def nV (ps : List Nat) : List V := ps.map fun k : Nat => V.int (k : Int)
theorem nV_len (ps : List Nat) : (nV ps).length = ps.length := List.length_map ..
theorem nV_at {ps : List Nat} {i : Nat} (h : i < ps.length) : (nV ps)[i]? = some (.int (ps[i] : Int)) := by
  unfold nV
  rw [List.getElem?_map, List.getElem?_eq_getElem h]
  rfl
theorem levL_mem {w : Int} {l : Nat} {xs : List Int} {n : Int} (h : n ∈ levL w l xs) : n ∈ xs := by
  rw [levL_plac] at h
  obtain ⟨k, hk, rfl⟩ := List.mem_map.mp h
  have lk := plac_lt hk
  rw [getD_eq lk]
  exact List.getElem_mem lk
/-! ### the trail -/
def goR (ls : List Int) (n a : Int) : List Int := ls.filter fun x => decide (x ≤ n) && decide (a < x)
/-- the places from a on, on the level l and beneath it -/
def trailC (w : Int) (xs : List Int) (n : Int) : Nat → Int → List (Nat × Int)
  | 0, a => (0, a) :: (goR (levL w 0 xs) n a).map fun x => (0, x)
  | l + 1, a => (l + 1, a) :: (goR (levL w (l + 1) xs) n a).map (fun x => (l + 1, x)) ++ trailC w xs n l ((goR (levL w (l + 1) xs) n a).getLast?.getD a)
def downT (w : Int) (xs : List Int) (n : Int) (l : Nat) (a : Int) : List (Nat × Int) := match l with
  | 0 => []
  | l + 1 => trailC w xs n l a
def trailR (w : Int) (h : Nat) (xs : List Int) (n : Int) : List (Nat × Int) := match xs with
  | [] => []
  | x :: _ => if x ≤ n then trailC w xs n h x else []
def stD (s : Nat × Int) : PyData := .tuple [.int (s.1 : Int), .int s.2]
theorem levL_rise {xs : List Int} (r : xs.Pairwise (· < ·)) (w : Int) (l : Nat) : (levL w l xs).Pairwise (· < ·) := by
  rw [levL_plac, List.pairwise_map]
  refine (plac_rise (w ^ l) xs).imp_of_mem fun ha hb h => ?_
  exact rise_getD r h (plac_lt hb)
theorem goR_none {ls : List Int} {n a : Int} (h : (ls.filter fun x => decide (a < x)).head? = none) : goR ls n a = [] := by
  unfold goR
  rw [← List.filter_filter, List.head?_eq_none_iff.mp h]
  rfl
theorem goR_some {ls : List Int} (r : ls.Pairwise (· < ·)) {n a b : Int} (h : (ls.filter fun x => decide (a < x)).head? = some b) : goR ls n a = if b ≤ n then b :: goR ls n b else [] := by
  obtain ⟨rest, e⟩ : ∃ rest, (ls.filter fun x => decide (a < x)) = b :: rest := by
    cases hf : (ls.filter fun x => decide (a < x)) with
    | nil =>
      rw [hf] at h
      cases h
    | cons c rest =>
      rw [hf] at h
      cases h
      exact ⟨rest, rfl⟩
  have ab : a < b := by
    have m : b ∈ (ls.filter fun x => decide (a < x)) := by
      rw [e]
      exact List.mem_cons_self
    exact of_decide_eq_true (List.mem_filter.mp m).2
  have rr : (b :: rest).Pairwise (· < ·) := by
    rw [← e]
    exact r.filter _
  have gr : ∀ x ∈ rest, b < x := (List.pairwise_cons.mp rr).1
  have e2 : (ls.filter fun x => decide (b < x)) = rest := by
    have z : ((ls.filter fun x => decide (a < x)).filter fun x => decide (b < x)) = ls.filter fun x => decide (b < x) := by
      rw [List.filter_filter]
      refine List.filter_congr fun x _ => ?_
      by_cases c : b < x
      · rw [decide_eq_true c, decide_eq_true (show a < x by omega)]
        rfl
      · rw [decide_eq_false c]
        rfl
    rw [← z, e, List.filter_cons, if_neg (by simp), List.filter_eq_self]
    exact fun x hx => decide_eq_true (gr x hx)
  unfold goR
  rw [← List.filter_filter, ← List.filter_filter, e, e2, List.filter_cons]
  by_cases c : b ≤ n
  · rw [if_pos (decide_eq_true c), if_pos c]
  · rw [if_neg (by rw [decide_eq_false c]; decide), if_neg c]
    refine List.filter_eq_nil_iff.mpr fun x hx => ?_
    have := gr x hx
    rw [decide_eq_false (by omega)]
    decide
theorem trailC_step {w : Int} {xs : List Int} (r : xs.Pairwise (· < ·)) (n : Int) (l : Nat) (a : Int) : trailC w xs n l a = (l, a) :: (match nextO w l xs a with
    | none => downT w xs n l a
    | some b => if b ≤ n then trailC w xs n l b else downT w xs n l a) := by
  unfold nextO
  cases h : ((levL w l xs).filter fun x => decide (a < x)).head? with
  | none =>
    have g := goR_none (n := n) h
    cases l with
    | zero =>
      unfold trailC
      rw [g]
      rfl
    | succ l =>
      show (l + 1, a) :: (goR (levL w (l + 1) xs) n a).map (fun x => (l + 1, x)) ++ trailC w xs n l ((goR (levL w (l + 1) xs) n a).getLast?.getD a) = _
      rw [g]
      rfl
  | some b =>
    have g := goR_some (n := n) (levL_rise r w l) h
    show trailC w xs n l a = (l, a) :: if b ≤ n then trailC w xs n l b else downT w xs n l a
    by_cases c : b ≤ n
    · rw [if_pos c] at g ⊢
      cases l with
      | zero =>
        show (0, a) :: (goR (levL w 0 xs) n a).map (fun x => (0, x)) = _
        rw [g]
        rfl
      | succ l =>
        show (l + 1, a) :: (goR (levL w (l + 1) xs) n a).map (fun x => (l + 1, x)) ++ trailC w xs n l ((goR (levL w (l + 1) xs) n a).getLast?.getD a) = (l + 1, a) :: ((l + 1, b) :: (goR (levL w (l + 1) xs) n b).map (fun x => (l + 1, x)) ++ trailC w xs n l ((goR (levL w (l + 1) xs) n b).getLast?.getD b))
        rw [g]
        have e : (b :: goR (levL w (l + 1) xs) n b).getLast?.getD a = (goR (levL w (l + 1) xs) n b).getLast?.getD b := by
          rw [List.getLast?_cons]
          rfl
        rw [e]
        rfl
    · rw [if_neg c] at g ⊢
      cases l with
      | zero =>
        show (0, a) :: (goR (levL w 0 xs) n a).map (fun x => (0, x)) = _
        rw [g]
        rfl
      | succ l =>
        show (l + 1, a) :: (goR (levL w (l + 1) xs) n a).map (fun x => (l + 1, x)) ++ trailC w xs n l ((goR (levL w (l + 1) xs) n a).getLast?.getD a) = _
        rw [g]
        rfl
/-- the next one on a level, by the places -/
theorem nextO_idx {w : Int} {l : Nat} {xs : List Int} (r : xs.Pairwise (· < ·)) {i : Nat} (h : i < xs.length) : nextO w l xs (xs.getD i 0) = (((plac (w ^ l) xs).filter fun k => decide (i < k)).head?).map fun j => xs.getD j 0 := by
  unfold nextO
  rw [levL_plac, List.filter_map]
  have e : ((plac (w ^ l) xs).filter ((fun x => decide (xs.getD i 0 < x)) ∘ fun k => xs.getD k 0)) = (plac (w ^ l) xs).filter fun k => decide (i < k) := by
    refine List.filter_congr fun j hj => ?_
    have lj := plac_lt hj
    show decide (xs.getD i 0 < xs.getD j 0) = decide (i < j)
    by_cases c : i < j
    · rw [decide_eq_true c, decide_eq_true (rise_getD r c lj)]
    · rw [decide_eq_false c]
      refine decide_eq_false ?_
      by_cases e : j = i
      · rw [e]
        omega
      · have := rise_getD r (show j < i by omega) h
        omega
  rw [e, List.head?_map]
/-- the next place whose block is not that of the one ahead of it -/
theorem plac_next {s : Int} {xs : List Int} {i j : Nat} (hij : i < j) (hj : j ≤ xs.length) (h1 : ∀ k, i < k → k < j → xs.getD k 0 / s = xs.getD (k - 1) 0 / s) (h2 : j < xs.length → xs.getD j 0 / s ≠ xs.getD (j - 1) 0 / s) :
    ((plac s xs).filter fun k => decide (i < k)).head? = if j < xs.length then some j else none := by
  unfold plac
  rw [List.filter_filter, List.head?_filter]
  by_cases c : j < xs.length
  · rw [if_pos c, List.find?_range_eq_some]
    refine ⟨?_, List.mem_range.mpr c, fun k hk => ?_⟩
    · have e1 : thinP s (fun k => xs.getD k 0) j = true := by
        unfold thinP
        rw [decide_eq_false (show ¬ j = 0 by omega), Bool.false_or, Bool.not_eq_true', decide_eq_false_iff_not]
        exact fun z => h2 c z.symm
      rw [e1, decide_eq_true hij]
      rfl
    · by_cases d : i < k
      · have e1 : thinP s (fun k => xs.getD k 0) k = false := by
          unfold thinP
          rw [decide_eq_false (show ¬ k = 0 by omega), decide_eq_true (h1 k d hk).symm]
          rfl
        rw [e1, Bool.and_false]
        rfl
      · rw [decide_eq_false d]
        rfl
  · rw [if_neg c, List.find?_eq_none]
    intro k hk
    have hk2 := List.mem_range.mp hk
    by_cases d : i < k
    · have e1 : thinP s (fun k => xs.getD k 0) k = false := by
        unfold thinP
        rw [decide_eq_false (show ¬ k = 0 by omega), decide_eq_true (h1 k d (by omega)).symm]
        rfl
      rw [e1, Bool.and_false]
      decide
    · rw [decide_eq_false d, Bool.false_and]
      decide
/-! ### the nearest -/
def belowEq (xs : List Int) (n : Int) : Option Int := (xs.filter fun x => decide (x ≤ n)).getLast?
def aboveEq (xs : List Int) (n : Int) : Option Int := (xs.filter fun x => decide (n ≤ x)).head?
theorem shaped_trail (ts : List (Nat × Int)) : SeqAt.shaped (.list (ts.map stD)) = true := shaped_list 1 (fun d hd => by
  obtain ⟨s, _, rfl⟩ := List.mem_map.mp hd
  exact ⟨rfl, Nat.le_refl _⟩) (by decide)
theorem dh_st {H : Hp} {v : V} {s : Nat × Int} (h : Dh H v (stD s)) : ∃ t, v = .ref t ∧ H t = some (.tup [.int (s.1 : Int), .int s.2]) := by
  unfold stD at h
  cases h with
  | tup e r =>
    cases r with
    | cons h1 r =>
      cases r with
      | cons h2 r =>
        cases r
        cases h1
        cases h2
        exact ⟨_, rfl, e⟩
/-! ### comprehensions over a list from behind -/
theorem lc_behind {K : PySem.W.Frag} {a : Addr} {xs : List V} {g : TG} {tt : TT} {te : TE} {vs : List Nat} {σ : L2.St} {H1 : Hp} {D : Addr} {Qd : Hp → Prop} (Pv : Nat → Hp → Prop) (start : Pv 0 (upd H1 D (.lst [])))
    (still : ∀ i H, Pv i H → SqL K H a xs)
    (turn : ∀ i x H, i < xs.length → xs[xs.length - 1 - i]? = some x → Pv i H → g x (wipe σ vs) H fun σ2 H2 => wipe σ2 vs = wipe σ vs ∧ tt σ2 H2 fun b H3 =>
      if b = true then te σ2 H3 fun y H4 => ∃ acc, H4 D = some (.lst acc) ∧ acc.length < sizeLine ∧ Pv (i + 1) (upd H4 D (.lst (acc ++ [y]))) else Pv (i + 1) H3) (fin : ∀ H, Pv xs.length H → Qd H) :
    ∃ W : Nat → Nat → Hp → Prop, (∃ m, W 0 m (upd H1 D (.lst []))) ∧ ∀ i m H, W i m H →
      ((Itv K a xs.length).stop i H ∧ Qd H) ∨ ((Itv K a xs.length).go i H ∧ ∃ Nx : Hp → Prop, (∀ H', Nx H' → ∃ m', m' < m ∧ W (i + 1) m' H') ∧ ∀ x H', (Itv K a xs.length).yld i H x H' → g x (wipe σ vs) H' fun σ2 H2 => wipe σ2 vs = wipe σ vs ∧ tt σ2 H2 fun b H3 =>
        if b = true then te σ2 H3 fun y H4 => ∃ acc, H4 D = some (.lst acc) ∧ acc.length < sizeLine ∧ Nx (upd H4 D (.lst (acc ++ [y]))) else Nx H3) := by
  refine ⟨fun i m H => Pv i H ∧ i ≤ xs.length ∧ m + i = xs.length, ⟨xs.length, start, Nat.zero_le _, rfl⟩, fun i m H hW => ?_⟩
  obtain ⟨hp, hi, hm⟩ := hW
  have hq := still i H hp
  rcases Nat.lt_or_ge i xs.length with lt | ge
  · have l2 : xs.length - 1 - i < xs.length := by omega
    exact .inr ⟨⟨lt, xs, xs[xs.length - 1 - i], hq, List.getElem?_eq_getElem l2⟩, Pv (i + 1), fun H' hp' => ⟨m - 1, by omega, hp', by omega, by omega⟩, fun x H' hy => by
      obtain ⟨rfl, fy⟩ := hy
      exact turn i x _ lt (fy xs hq) hp⟩
  · have ei : i = xs.length := by omega
    subst ei
    exact .inl ⟨Nat.le_refl _, fin H hp⟩
/-- [x for x in reversed(xs) if p(x)] over a list of ints -/
theorem el_behind {K : PySem.W.Frag} {σ : L2.St} {H : Hp} {tl te : TE} {t : TT} {a : Addr} {ns : List Int} {j : Nat} {vs : List Nat} (p : Int → Bool) (h : Evl.Ev tl σ H (.ref a)) (hx : SqL K H a (ns.map V.int)) (hz : ns.length ≤ 40000)
    (hw : ∀ x, wipe ((wipe σ vs).set j (some x)) vs = wipe σ vs) (ht : ∀ x ∈ ns, ∀ H1, Same H H1 → Evl.EvT t ((wipe σ vs).set j (some (.int x))) H1 (p x))
    (he : ∀ x ∈ ns, ∀ H1, Same H H1 → p x = true → Evl.Ev te ((wipe σ vs).set j (some (.int x))) H1 (.int x)) : Evl.EvL (tLc (iRev K (tCons tl tNil)) (gName j) t te vs) σ H ((ns.reverse.filter p).map V.int) := by
  rw [← given_ints (α := Unit) ns.reverse p V.int, List.length_reverse]
  have hl : (ns.map V.int).length = ns.length := List.length_map ..
  intro H0 e Q q
  refine h H0 e _ fun H1 e1 => ⟨a, ns.map V.int, rfl, Evl.ex_l (e.trans e1) hx, fun D hD => ?_⟩
  refine lc_behind (Evl.Cw H1 (fun k => p (ns.reverse.getD k 0)) (fun k => V.int (ns.reverse.getD k 0)) D) ⟨hD, Evl.Ex.new hD, upd_same⟩ (fun i H' c => Evl.ex_l ((e.trans e1).trans c.2.1) hx) (fun i x H' lt hi c => ?_) (fun H' c => q D H' (Evl.fresh_back e1 c.1) (e1.trans c.2.1) ?_)
  · rw [hl] at lt hi
    obtain ⟨_, rfl, m⟩ := int_at hi
    have er : ns.reverse.getD i 0 = ns.getD (ns.length - 1 - i) 0 := by
      rw [List.getD_eq_getElem?_getD, List.getD_eq_getElem?_getD, List.getElem?_reverse lt]
    refine ⟨hw _, Evl.cw_turn c (by omega) ?_ ?_⟩
    · show Evl.EvT t _ H1 (p (ns.reverse.getD i 0))
      rw [er]
      exact ht _ m H1 (e.trans e1)
    · intro hf
      show Evl.Ev te _ H1 (V.int (ns.reverse.getD i 0))
      have hf2 : p (ns.reverse.getD i 0) = true := hf
      rw [er] at hf2 ⊢
      exact he _ m H1 (e.trans e1) hf2
  · have z := c.2.2
    rw [hl] at z
    exact z
/-! ### who stands on a level, and what a deed changes there -/
theorem div_le_of {s x y : Int} (hs : 0 < s) (h : x ≤ y) : x / s ≤ y / s := Int.ediv_le_ediv hs h
/-- the least one of its block -/
def Lead (s : Int) (xs : List Int) (x : Int) : Prop := ∀ y ∈ xs, y < x → y / s ≠ x / s
theorem at_of_mem {xs : List Int} {x : Int} (h : x ∈ xs) : ∃ k, k < xs.length ∧ xs.getD k 0 = x := by
  obtain ⟨k, hk, e⟩ := List.mem_iff_getElem.mp h
  exact ⟨k, hk, by rw [getD_eq hk, e]⟩
theorem mem_at {xs : List Int} {k : Nat} (h : k < xs.length) : xs.getD k 0 ∈ xs := by
  rw [getD_eq h]
  exact List.getElem_mem h
theorem rise_idx {xs : List Int} (r : xs.Pairwise (· < ·)) {i j : Nat} (hi : i < xs.length) (hj : j < xs.length) (h : xs.getD i 0 < xs.getD j 0) : i < j := by
  rcases Nat.lt_trichotomy i j with c | c | c
  · exact c
  · subst c
    omega
  · have := rise_getD r c hi
    omega
theorem mem_lev {w : Int} {l : Nat} {xs : List Int} (hw : 2 ≤ w) (r : xs.Pairwise (· < ·)) {x : Int} : x ∈ levL w l xs ↔ x ∈ xs ∧ Lead (w ^ l) xs x := by
  have s0 := pow_pos' hw l
  rw [levL_plac, List.mem_map]
  constructor
  · rintro ⟨k, hk, rfl⟩
    have lk := plac_lt hk
    refine ⟨mem_at lk, fun y hy lt e => ?_⟩
    obtain ⟨j, hj, rfl⟩ := at_of_mem hy
    have jk := rise_idx r hj lk lt
    have tp := (List.mem_filter.mp hk).2
    unfold thinP at tp
    rw [decide_eq_false (show ¬ k = 0 by omega), Bool.false_or, Bool.not_eq_true', decide_eq_false_iff_not] at tp
    have a1 : xs.getD j 0 ≤ xs.getD (k - 1) 0 := by
      by_cases c : j = k - 1
      · rw [c]
        omega
      · exact Int.le_of_lt (rise_getD r (show j < k - 1 by omega) (by omega))
    have a2 : xs.getD (k - 1) 0 ≤ xs.getD k 0 := Int.le_of_lt (rise_getD r (by omega) lk)
    have b1 := div_le_of s0 a1
    have b2 := div_le_of s0 a2
    have tp2 : xs.getD (k - 1) 0 / w ^ l ≠ xs.getD k 0 / w ^ l := tp
    exact tp2 (by omega)
  · rintro ⟨hx, ld⟩
    obtain ⟨k, hk, rfl⟩ := at_of_mem hx
    refine ⟨k, List.mem_filter.mpr ⟨List.mem_range.mpr hk, ?_⟩, rfl⟩
    unfold thinP
    by_cases c : k = 0
    · rw [decide_eq_true c]
      rfl
    · rw [decide_eq_false c, Bool.false_or, Bool.not_eq_true', decide_eq_false_iff_not]
      exact ld _ (mem_at (by omega)) (rise_getD r (show k - 1 < k by omega) hk)
theorem nodup_rise {xs : List Int} (r : xs.Pairwise (· < ·)) : xs.Nodup := r.imp fun h => Int.ne_of_lt h
/-- the greatest below -/
theorem last_max {xs : List Int} (r : xs.Pairwise (· < ·)) {z : Int} (h : xs.getLast? = some z) : z ∈ xs ∧ ∀ y ∈ xs, y ≤ z := by
  obtain ⟨ini, e⟩ := List.getLast?_eq_some_iff.mp h
  subst e
  refine ⟨by simp, fun y hy => ?_⟩
  rcases List.mem_append.mp hy with m | m
  · exact Int.le_of_lt ((List.pairwise_append.mp r).2.2 y m z List.mem_cons_self)
  · rw [List.mem_singleton.mp m]
    omega
theorem head_min {xs : List Int} (r : xs.Pairwise (· < ·)) {z : Int} (h : xs.head? = some z) : z ∈ xs ∧ ∀ y ∈ xs, z ≤ y := by
  cases xs with
  | nil => cases h
  | cons a rest =>
    cases h
    refine ⟨List.mem_cons_self, fun y hy => ?_⟩
    rcases List.mem_cons.mp hy with e | m
    · omega
    · exact Int.le_of_lt ((List.pairwise_cons.mp r).1 y m)
theorem below_spec {xs : List Int} (r : xs.Pairwise (· < ·)) {n b : Int} (h : belowO xs n = some b) : b ∈ xs ∧ b < n ∧ ∀ y ∈ xs, y < n → y ≤ b := by
  obtain ⟨m, mx⟩ := last_max (r.filter _) h
  have m2 := List.mem_filter.mp m
  exact ⟨m2.1, of_decide_eq_true m2.2, fun y hy lt => mx y (List.mem_filter.mpr ⟨hy, decide_eq_true lt⟩)⟩
theorem below_none {xs : List Int} {n : Int} (h : belowO xs n = none) : ∀ y ∈ xs, ¬ y < n := by
  unfold belowO at h
  rw [List.getLast?_eq_none_iff] at h
  exact fun y hy lt => by
    have z : y ∈ xs.filter fun x => decide (x < n) := List.mem_filter.mpr ⟨hy, decide_eq_true lt⟩
    rw [h] at z
    cases z
theorem above_spec {xs : List Int} (r : xs.Pairwise (· < ·)) {n b : Int} (h : aboveO xs n = some b) : b ∈ xs ∧ n < b ∧ ∀ y ∈ xs, n < y → b ≤ y := by
  obtain ⟨m, mx⟩ := head_min (r.filter _) h
  have m2 := List.mem_filter.mp m
  exact ⟨m2.1, of_decide_eq_true m2.2, fun y hy lt => mx y (List.mem_filter.mpr ⟨hy, decide_eq_true lt⟩)⟩
theorem above_none {xs : List Int} {n : Int} (h : aboveO xs n = none) : ∀ y ∈ xs, ¬ n < y := by
  unfold aboveO at h
  rw [List.head?_eq_none_iff] at h
  exact fun y hy lt => by
    have z : y ∈ xs.filter fun x => decide (n < x) := List.mem_filter.mpr ⟨hy, decide_eq_true lt⟩
    rw [h] at z
    cases z
theorem onLev_lead {w : Int} (hw : 2 ≤ w) {xs : List Int} (r : xs.Pairwise (· < ·)) {n : Int} {l : Nat} : onLev w xs n l = true ↔ Lead (w ^ l) xs n := by
  have s0 := pow_pos' hw l
  unfold onLev
  cases h : belowO xs n with
  | none => exact ⟨fun _ y hy lt => absurd lt (below_none h y hy), fun _ => rfl⟩
  | some b =>
    obtain ⟨b1, b2, b3⟩ := below_spec r h
    show decide (b / w ^ l < n / w ^ l) = true ↔ _
    rw [decide_eq_true_iff]
    have c0 := div_le_of s0 (Int.le_of_lt b2)
    refine ⟨fun c y hy lt e => ?_, fun c => ?_⟩
    · have := div_le_of s0 (b3 y hy lt)
      omega
    · have := c b b1 b2
      omega
theorem mate_iff {w : Int} (hw : 2 ≤ w) {xs : List Int} (r : xs.Pairwise (· < ·)) {n x : Int} {l : Nat} (hn : Lead (w ^ l) xs n) (nn : n ∉ xs) : mateO w xs n l = some x ↔ x ∈ levL w l xs ∧ n < x ∧ x / w ^ l = n / w ^ l := by
  have s0 := pow_pos' hw l
  rw [mem_lev hw r]
  unfold mateO
  cases h : aboveO xs n with
  | none => exact ⟨fun z => (nomatch z), fun ⟨⟨m, _⟩, lt, _⟩ => absurd lt (above_none h x m)⟩
  | some g =>
    obtain ⟨g1, g2, g3⟩ := above_spec r h
    show (if g / w ^ l = n / w ^ l then some g else none) = some x ↔ _
    constructor
    · intro z
      by_cases c : g / w ^ l = n / w ^ l
      · rw [if_pos c] at z
        cases z
        refine ⟨⟨g1, fun y hy lt e => ?_⟩, g2, c⟩
        rcases Int.lt_trichotomy y n with c2 | c2 | c2
        · exact hn y hy c2 (by omega)
        · exact nn (c2 ▸ hy)
        · have := g3 y hy c2
          omega
      · rw [if_neg c] at z
        cases z
    · rintro ⟨⟨m, ld⟩, lt, e⟩
      have a1 := g3 x m lt
      have b1 := div_le_of s0 a1
      have b2 := div_le_of s0 (Int.le_of_lt g2)
      have c : g / w ^ l = n / w ^ l := by omega
      rw [if_pos c]
      by_cases d : g = x
      · rw [d]
      · exact absurd (show g / w ^ l = x / w ^ l by omega) (ld g g1 (by omega))
/-- put in: who stands there then -/
theorem lev_put {w : Int} (hw : 2 ≤ w) {xs : List Int} (r : xs.Pairwise (· < ·)) {n x : Int} {l : Nat} (nn : n ∉ xs) : x ∈ levL w l (insR n xs) ↔ if onLev w xs n l = true then x = n ∨ (x ∈ levL w l xs ∧ mateO w xs n l ≠ some x) else x ∈ levL w l xs := by
  have s0 := pow_pos' hw l
  have r2 := insR_rise (n := n) r
  rw [mem_lev hw r2, mem_insR]
  by_cases c : onLev w xs n l = true
  · rw [if_pos c]
    have ld := (onLev_lead hw r).mp c
    constructor
    · rintro ⟨rfl | ⟨m, ne⟩, le⟩
      · exact .inl rfl
      · refine .inr ⟨(mem_lev hw r).mpr ⟨m, fun y hy => le y (mem_insR.mpr (by by_cases e : y = n; exact .inl e; exact .inr ⟨hy, e⟩))⟩, fun z => ?_⟩
        obtain ⟨_, lt, e⟩ := (mate_iff hw r ld nn).mp z
        exact le n (mem_insR.mpr (.inl rfl)) lt e.symm
    · rintro (rfl | ⟨m, ne⟩)
      · refine ⟨.inl rfl, fun y hy lt => ?_⟩
        rcases mem_insR.mp hy with rfl | ⟨hy, _⟩
        · omega
        · exact ld y hy lt
      · have m2 := (mem_lev hw r).mp m
        have xn : x ≠ n := fun z => nn (z ▸ m2.1)
        refine ⟨.inr ⟨m2.1, xn⟩, fun y hy lt => ?_⟩
        rcases mem_insR.mp hy with rfl | ⟨hy, _⟩
        · exact fun e => ne ((mate_iff hw r ld nn).mpr ⟨m, lt, e.symm⟩)
        · exact m2.2 y hy lt
  · rw [if_neg c, mem_lev hw r]
    have nl : ∃ b ∈ xs, b < n ∧ b / w ^ l = n / w ^ l := by
      refine Classical.byContradiction fun z => c ((onLev_lead hw r).mpr fun y hy lt e => z ⟨y, hy, lt, e⟩)
    obtain ⟨b, hb, lb, eb⟩ := nl
    constructor
    · rintro ⟨rfl | ⟨m, ne⟩, le⟩
      · exact absurd eb (le b (mem_insR.mpr (.inr ⟨hb, by omega⟩)) lb)
      · exact ⟨m, fun y hy => le y (mem_insR.mpr (by by_cases e : y = n; exact .inl e; exact .inr ⟨hy, e⟩))⟩
    · rintro ⟨m, le⟩
      have xn : x ≠ n := fun z => nn (z ▸ m)
      refine ⟨.inr ⟨m, xn⟩, fun y hy lt e => ?_⟩
      rcases mem_insR.mp hy with rfl | ⟨hy, _⟩
      · exact le b hb (by omega) (by omega)
      · exact le y hy lt e
theorem rise_ext {xs ys : List Int} (r : xs.Pairwise (· < ·)) (s : ys.Pairwise (· < ·)) (h : ∀ x, x ∈ xs ↔ x ∈ ys) : xs = ys :=
  PySem.W.ksm_same ((List.perm_ext_iff_of_nodup (nodup_rise r) (nodup_rise s)).mpr h) (r.imp fun h => Int.le_of_lt h) (s.imp fun h => Int.le_of_lt h)
theorem ins_rem {xs : List Int} (r : xs.Pairwise (· < ·)) {n : Int} (h : n ∈ xs) : insR n (remR n xs) = xs := rise_ext (insR_rise (r.filter _)) r fun x => by
  rw [mem_insR, mem_remR]
  constructor
  · rintro (rfl | ⟨⟨m, _⟩, _⟩)
    · exact h
    · exact m
  · intro m
    by_cases e : x = n
    · exact .inl e
    · exact .inr ⟨⟨m, e⟩, e⟩
theorem not_rem {xs : List Int} {n : Int} : n ∉ remR n xs := fun z => (mem_remR.mp z).2 rfl
theorem below_rem (xs : List Int) (n : Int) : belowO (remR n xs) n = belowO xs n := by
  unfold belowO remR
  rw [List.filter_filter]
  congr 1
  refine List.filter_congr fun x _ => ?_
  by_cases c : x < n
  · rw [decide_eq_true c, decide_eq_false (show ¬ x = n by omega)]
    rfl
  · rw [decide_eq_false c]
    rfl
theorem above_rem (xs : List Int) (n : Int) : aboveO (remR n xs) n = aboveO xs n := by
  unfold aboveO remR
  rw [List.filter_filter]
  congr 1
  refine List.filter_congr fun x _ => ?_
  by_cases c : n < x
  · rw [decide_eq_true c, decide_eq_false (show ¬ x = n by omega)]
    rfl
  · rw [decide_eq_false c]
    rfl
theorem onLev_rem (w : Int) (xs : List Int) (n : Int) (l : Nat) : onLev w (remR n xs) n l = onLev w xs n l := by
  unfold onLev
  rw [below_rem]
theorem mate_rem (w : Int) (xs : List Int) (n : Int) (l : Nat) : mateO w (remR n xs) n l = mateO w xs n l := by
  unfold mateO
  rw [above_rem]
theorem chTake_eq (w : Int) (h : Nat) (xs : List Int) (n : Int) : chTake w h xs n = ((List.range (h + 1)).filter (onLev w (remR n xs) n)).map fun l => dCh l (mateO w (remR n xs) n l) (some n) := by
  unfold chTake
  have e : onLev w (remR n xs) n = onLev w xs n := funext fun l => onLev_rem w xs n l
  rw [e]
  refine List.map_congr_left fun l _ => ?_
  rw [mate_rem]
/-- a level is the one beneath it, thinned -/
theorem lev_thin {w : Int} (hw : 2 ≤ w) {xs : List Int} (r : xs.Pairwise (· < ·)) (l : Nat) : thinF (w ^ (l + 1)) (fun k => (levL w l xs).getD k 0) (levL w l xs).length = levL w (l + 1) xs := by
  have r1 := levL_rise r w l
  have e : thinF (w ^ (l + 1)) (fun k => (levL w l xs).getD k 0) (levL w l xs).length = levL w (l + 1) (levL w l xs) := rfl
  rw [e]
  refine rise_ext (levL_rise r1 w (l + 1)) (levL_rise r w (l + 1)) fun x => ?_
  rw [mem_lev hw r1, mem_lev hw r, mem_lev hw r]
  have s0 := pow_pos' hw l
  have dd : ∀ y : Int, y / w ^ (l + 1) = y / w ^ l / w := fun y => by rw [Int.pow_succ, Int.ediv_ediv_of_nonneg (Int.le_of_lt s0)]
  constructor
  · rintro ⟨⟨m, l1⟩, l2⟩
    refine ⟨m, fun y hy lt ey => ?_⟩
    -- the least one of y's block
    have key : ∀ (k : Nat) (y : Int), y ∈ xs → y < x → y / w ^ (l + 1) = x / w ^ (l + 1) → (xs.filter fun z => decide (z < y)).length ≤ k → ∃ z, z ∈ xs ∧ Lead (w ^ l) xs z ∧ z < x ∧ z / w ^ (l + 1) = x / w ^ (l + 1) := by
      intro k
      induction k with
      | zero =>
        intro y hy lt ey hk
        refine ⟨y, hy, fun z hz lz => ?_, lt, ey⟩
        have : z ∈ (xs.filter fun z => decide (z < y)) := List.mem_filter.mpr ⟨hz, decide_eq_true lz⟩
        rw [List.length_eq_zero_iff.mp (Nat.le_zero.mp hk)] at this
        cases this
      | succ k ih =>
        intro y hy lt ey hk
        by_cases c : Lead (w ^ l) xs y
        · exact ⟨y, hy, c, lt, ey⟩
        · have : ∃ z ∈ xs, z < y ∧ z / w ^ l = y / w ^ l := Classical.byContradiction fun q => c fun z hz lz e => q ⟨z, hz, lz, e⟩
          obtain ⟨z, hz, lz, ez⟩ := this
          refine ih z hz (by omega) (by rw [dd, ez, ← dd, ey]) ?_
          have sub : ((xs.filter fun q => decide (q < z)).length + 1) ≤ (xs.filter fun q => decide (q < y)).length := by
            have e1 := place_gap z y (Int.le_of_lt lz) xs
            unfold placeN at e1
            have : z ∈ (xs.filter fun q => decide (z ≤ q) && decide (q < y)) := List.mem_filter.mpr ⟨hz, by rw [decide_eq_true (Int.le_refl z), decide_eq_true lz]; rfl⟩
            have := List.length_pos_of_mem this
            omega
          omega
    obtain ⟨z, z1, z2, z3, z4⟩ := key _ y hy lt ey (Nat.le_refl _)
    exact l2 z ((mem_lev hw r).mpr ⟨z1, z2⟩) z3 z4
  · rintro ⟨m, le⟩
    refine ⟨⟨m, fun y hy lt e => le y hy lt (by rw [dd, dd, e])⟩, fun y hy lt => le y ((mem_lev hw r).mp hy).1 lt⟩
theorem lev_zero {w : Int} (hw : 2 ≤ w) {xs : List Int} (r : xs.Pairwise (· < ·)) : levL w 0 xs = xs := rise_ext (levL_rise r w 0) r fun x => by
  rw [mem_lev hw r]
  refine ⟨fun h => h.1, fun h => ⟨h, fun y _ lt => ?_⟩⟩
  rw [Int.pow_zero, Int.ediv_one, Int.ediv_one]
  omega
theorem lev_nil (w : Int) (l : Nat) : levL w l [] = [] := rfl
/-! ### rules: calls in a try, isinstance of the error that is held -/
def tMethS (C : Addr) (m : Str) (sp : Sp) (E : L2.St → XK) (ta : TE) (t : TA) : TE := fun σ H Q => ta σ H fun x H1 => ∃ a dx fs, x = .ref a ∧ H1 a = some (.ins C dx fs) ∧ fs.lookup m = none ∧ t σ H1 fun vs H2 => sp (x :: vs) H2 Q (E σ)
theorem pe_methS {X : Cx} {CX : CXT} {k : Nat} {f C : Addr} {fd : FuncData} {ps : List Str} {sp : Sp} {E : L2.St → XK} {m : Str} {pos apos : Pos} {e o : Expr} {es : List Expr} {ta : TE} {t : TA} {pl : Sem Bool} (he : PE X o ta) (c : Cls X.K C) (hm : Meth X.K C m f)
    (F : FnOk X.prog X.w X.K X.mg X.base CX k f fd ps sp) (hr : Room k X.A) (hb : Binds X.K fd ps []) (hx : ∀ σ, PassesAt CX X σ (E σ)) (ha : PA X (e :: es) t)
    (hst : starEach (e :: es) X.env = (false, eval e X.env) :: starEach es X.env := by rfl) (hpl : (backTo pos (starEach es X.env)).any (·.1) = false := by rfl)
    (ht : eval (.Call (.Attribute o m apos) (e :: es) [] pos) X.env = (do
      let ov ← eval o X.env
      standAt apos.atName
      let (f, first) ← holding [ov] (getMethod ov m pl)
      callWith pos f first (backTo pos (starEach (e :: es) X.env)) (backToKw pos (keywordEach [] X.env))) := by rfl) :
    PE X (.Call (.Attribute o m apos) (e :: es) [] pos) (tMethS C m sp E ta t) := by
  refine ⟨fun pins s σ H Q I h => ?_⟩
  refine PySem.W.methodCall_KW (pl := pl) (thn (he.run pins s σ H _ I h) fun u s1 ⟨x, H1, I1, rx, a, dx, fs, ex, ea, l, q⟩ => ?_) ht
  subst ex
  obtain rfl : u = Value.ref a := rx
  refine getmeth_ok I1 ea c hm l ?_
  refine PySem.W.callWith_K (first := [.ref a]) (h₀ := X.base) I.ok.mod.kin hm.kp (thn (ha.run pos pins s1 σ H1 _ I1 q) fun us s2 ⟨vs, H2, I2, r, q2⟩ => ⟨I2.kIn, ?_⟩) hst hpl
  exact run_fnS (us := .ref a :: us) (vs := .ref a :: vs) F hr hb (hx σ) I2 (.cons rfl r) q2
/-- isinstance(e, c), e the error that the suite holds, whichever class it is of -/
def rIsEx (K : PySem.W.Frag) (cls : Value) (dd : Option Addr) (a : Addr) : List V → Hp → VK → Prop := fun xs H Q => ∃ (D : Addr) (c : V) (cv : Value) (b : Bool), cls = .ref D ∧ dd = none ∧ ExcC K D ∧ xs = [.ref a, c] ∧ (∀ u, RelV c u → u = cv) ∧ PySem.W.kitOne K (.ref D) cv = some b ∧ Q (.bl b) H
theorem call_isEx {X : Cx} {K : PySem.W.Frag} {a : Addr} {cls : Value} {dd : Option Addr} {oe : Obj} {pn : List (Addr × Obj)} (hz : Zc cls dd oe) (hf : ∃ vs, oe.data = .fields vs) (hK : X.K = K := by rfl) : CallR (X.suite a ((a, oe) :: pn)) (.builtin "isinstance") (rIsEx K cls dd a) := by
  subst hK
  intro pins s σ H xs us Q I r h
  obtain ⟨D, c, cv, b, rfl, rfl, hC, rfl, hcv, e, q⟩ := h
  exact call_isE hC hz hf pins s σ H _ us Q I r ⟨c, cv, b, rfl, hcv, e, q⟩
/-! ### a new instance within a try -/
def tMakeS (C : Addr) (sp : Sp) (E : L2.St → XK) (t : TA) : TE := fun σ H Q => t σ H fun vs H1 => ∀ y dy, H1 y = none → H1 dy = none → dy ≠ y → sp (.ref y :: vs) (upd (upd H1 dy (.own y)) y (.ins C dy [])) (fun v H2 => v = .non ∧ Q (.ref y) H2) (E σ)
theorem pe_makeS {X : Cx} {CX : CXT} {k : Nat} {f C : Addr} {fd : FuncData} {ps : List Str} {sp : Sp} {E : L2.St → XK} {x : Str} {p pos : Pos} {e : Expr} {es : List Expr} {t : TA}
    (M : Mk X.K C f) (F : FnOk X.prog X.w X.K X.mg X.base CX k f fd ps sp) (room : Room (k + 1) X.A) (hg : Gl X x) (hm : X.mg x = some (.ref C)) (hb : Binds X.K fd ps []) (lets : ∀ σ, PassesAt CX X σ (E σ)) (ha : PA X (e :: es) t)
    (hdb : (x == ("__debug__" : Str)) = false := by decide) (hst : starEach (e :: es) X.env = (false, eval e X.env) :: starEach es X.env := by rfl) (hpl : (backTo pos (starEach es X.env)).any (·.1) = false := by rfl) :
    PE X (.Call (.Name x p) (e :: es) [] pos) (tMakeS C sp E t) := by
  refine ⟨fun pins s σ H Q I asked => ?_⟩
  have step : ∀ {H1 : Hp} {s1 : Shared} {us : List Value} {vs : List V}, Inv X pins σ H1 s1 → Vals vs us → (∀ y dy, H1 y = none → H1 dy = none → dy ≠ y → sp (.ref y :: vs) (upd (upd H1 dy (.own y)) y (.ins C dy [])) (fun v H2 => v = .non ∧ Q (.ref y) H2) (E σ)) →
      wpAny (model X.prog X.w) X.A (call (.ref C) us) (EP X pins σ Q) X.xe s1 := fun {H1 s1 us vs} I1 r1 h => by
    have want := h (s1.heap.objs.size + 1) s1.heap.objs.size (I1.hok.fresh (Nat.le_succ _)) (I1.hok.fresh (Nat.le_refl _)) (Nat.ne_of_lt (Nat.lt_succ_self _))
    have I2 := Inv.made (C := C) I1
    have r2 : Vals (V.ref (s1.heap.objs.size + 1) :: vs) (Value.ref (s1.heap.objs.size + 1) :: us) := .cons rfl r1
    have len : (Value.ref (s1.heap.objs.size + 1) :: us).length = ps.length := r2.length.symm.trans (F.len _ _ _ _ want)
    have bind := hb _ (Value.ref (s1.heap.objs.size + 1) :: us) I2.kIn (by rw [List.append_nil]; exact len)
    rw [List.append_nil] at bind
    refine wpAny_call (make_map (f := f) I1.kIn M.makes M.init (beq_iff_eq.mp M.fn) (codeAny_mono (F.run _ X.stack _ _ ⟨Value.ref (s1.heap.objs.size + 1) :: us, []⟩ (Value.ref (s1.heap.objs.size + 1) :: us) _ _ (E σ) (room.make C us []) (I2.env0.make C us []) bind r2 want) fun r s' got => ?_))
    match r, got with
    | .error u, got => exact lets σ pins _ _ u s' I2 got
    | .ok (.ret u), got =>
      obtain ⟨v, H', I3, rv, ev, q3⟩ := I2.after got
      subst ev
      exact ⟨rv, ⟨.ref (s1.heap.objs.size + 1), H', I3, rfl, q3⟩⟩
    | .ok .next, got => exact got.elim
    | .ok .brk, got => exact got.elim
    | .ok .cont, got => exact got.elim
  refine wpAny_Call_Name_kw (ld_glob I hg hm ?_ hdb)
  exact PySem.W.callWith_K (h₀ := X.base) I.ok.mod.kin M.kp (thn (ha.run pos pins s σ H _ I asked) fun us s1 ⟨vs, H1, I1, r, q⟩ => ⟨I1.kIn, step I1 r q⟩) hst hpl
def apartP (w b n : Int) (l : Nat) : Bool := !decide (V.int (b / w ^ l) = V.int (n / w ^ l))
def tallN (w : Int) (h : Nat) (b n : Int) : Nat := (List.range (h + 1)).countP (apartP w b n)
def tallO (w : Int) (h : Nat) (b : Option Int) (n : Int) : Int := match b with
  | none => (h : Int) + 1
  | some b => (tallN w h b n : Int)
def sp_tall (_ : PySem.W.Frag) : Sp := fun vs H Q _ => ∃ (wd : Int) (h : Nat) (b : Option Int) (n : Int), vs = [.int wd, .int (h : Int), oV b, .int n] ∧ 2 ≤ wd ∧ wd ≤ 9 ∧ h ≤ 12 ∧ Q (.int (tallO wd h b n)) H
/-! the mathematics -/
theorem countP_succ (p : Nat → Bool) (i : Nat) : (List.range (i + 1)).countP p = (List.range i).countP p + if p i = true then 1 else 0 := by
  rw [List.range_succ, List.countP_append, List.countP_cons, List.countP_nil]
  simp
theorem apart_down {w b n : Int} (l : Nat) (h : apartP w b n (l + 1) = true) (hw : 2 ≤ w) : apartP w b n l = true := by
  unfold apartP at *
  rw [Bool.not_eq_true', decide_eq_false_iff_not] at *
  intro e
  apply h
  have e1 := V.int.inj e
  have p := pow_pos' hw l
  rw [Int.pow_succ, ← Int.ediv_ediv_of_nonneg (by omega), ← Int.ediv_ediv_of_nonneg (by omega), e1]
theorem down_all {p : Nat → Bool} (hp : ∀ l, p (l + 1) = true → p l = true) : ∀ {m : Nat}, p m = true → ∀ l, l ≤ m → p l = true
  | 0, h, l, hl => by
    rw [show l = 0 by omega]
    exact h
  | m + 1, h, l, hl => by
    by_cases e : l = m + 1
    · rw [e]
      exact h
    · exact down_all hp (hp m h) l (by omega)
theorem filter_down {p : Nat → Bool} (hp : ∀ l, p (l + 1) = true → p l = true) : ∀ m : Nat, (List.range m).filter p = List.range ((List.range m).countP p)
  | 0 => rfl
  | m + 1 => by
    by_cases h : p m = true
    · have ha : ∀ l ∈ List.range (m + 1), p l = true := fun l hl => down_all hp h l (by have := List.mem_range.mp hl; omega)
      have h1 : (List.range (m + 1)).filter p = List.range (m + 1) := List.filter_eq_self.mpr ha
      have h2 : (List.range (m + 1)).countP p = (List.range (m + 1)).length := List.countP_eq_length.mpr ha
      rw [h1, h2, List.length_range]
    · rw [countP_succ, if_neg h, List.range_succ, List.filter_append, filter_down hp m]
      have h3 : [m].filter p = [] := by
        rw [List.filter_cons, if_neg h]
        rfl
      rw [h3, List.append_nil, Nat.add_zero]
/-! ### the row, cut where a number is or would be -/
theorem filt_place {n : Int} : ∀ {xs : List Int}, xs.Pairwise (· < ·) → (xs.filter fun x => decide (x < n)) = xs.take (placeN xs n)
  | [], _ => rfl
  | x :: xs, r => by
    have rr := List.pairwise_cons.mp r
    have ih := filt_place (n := n) rr.2
    unfold placeN at ih ⊢
    by_cases c : x < n
    · rw [List.filter_cons, if_pos (decide_eq_true c), List.length_cons, List.take_succ_cons, ← ih]
    · have e : ((x :: xs).filter fun x => decide (x < n)) = [] := List.filter_eq_nil_iff.mpr fun y hy => by
        rcases List.mem_cons.mp hy with z | z
        · rw [z, decide_eq_false c]
          decide
        · have := rr.1 y z
          rw [decide_eq_false (by omega)]
          decide
      rw [e]
      rfl
theorem filt_place_ge {n : Int} : ∀ {xs : List Int}, xs.Pairwise (· < ·) → (xs.filter fun x => decide (n ≤ x)) = xs.drop (placeN xs n)
  | [], _ => rfl
  | x :: xs, r => by
    have rr := List.pairwise_cons.mp r
    have ih := filt_place_ge (n := n) rr.2
    by_cases c : x < n
    · have e : placeN (x :: xs) n = placeN xs n + 1 := by
        unfold placeN
        rw [List.filter_cons, if_pos (decide_eq_true c), List.length_cons]
      rw [e, List.drop_succ_cons, ← ih, List.filter_cons, if_neg]
      rw [decide_eq_false (by omega)]
      decide
    · have e : placeN (x :: xs) n = 0 := by
        unfold placeN
        rw [List.length_eq_zero_iff, List.filter_eq_nil_iff]
        intro y hy
        rcases List.mem_cons.mp hy with z | z
        · rw [z, decide_eq_false c]
          decide
        · have := rr.1 y z
          rw [decide_eq_false (by omega)]
          decide
      rw [e, List.drop_zero, List.filter_eq_self]
      intro y hy
      rcases List.mem_cons.mp hy with z | z
      · rw [z]
        exact decide_eq_true (by omega)
      · have := rr.1 y z
        exact decide_eq_true (by omega)
theorem placeN_le (xs : List Int) (n : Int) : placeN xs n ≤ xs.length := List.length_filter_le _ _
/-- the greatest one that is less -/
theorem belowO_at {xs : List Int} (r : xs.Pairwise (· < ·)) (n : Int) : belowO xs n = if placeN xs n = 0 then none else xs[placeN xs n - 1]? := by
  have hl := placeN_le xs n
  unfold belowO
  rw [filt_place r]
  split
  · rename_i e
    rw [e]
    rfl
  · rename_i e
    rw [List.getLast?_eq_getElem?, List.length_take, Nat.min_eq_left hl, List.getElem?_take, if_pos (by omega)]
theorem aboveEq_at {xs : List Int} (r : xs.Pairwise (· < ·)) (n : Int) : (xs.filter fun x => decide (n ≤ x)).head? = xs[placeN xs n]? := by
  rw [filt_place_ge r, List.head?_drop]
theorem at_place {xs : List Int} (r : xs.Pairwise (· < ·)) {n : Int} (h : n ∈ xs) : xs[placeN xs n]? = some n := by
  obtain ⟨k, hk, e⟩ := List.mem_iff_getElem.mp h
  have e2 : xs.getD k 0 = n := by rw [getD_eq hk, e]
  have z := placeN_at r hk
  rw [e2] at z
  rw [z, List.getElem?_eq_getElem hk, e]
theorem place_lt {xs : List Int} (r : xs.Pairwise (· < ·)) {n : Int} (h : n ∈ xs) : placeN xs n < xs.length := (List.getElem?_eq_some_iff.mp (at_place r h)).1
/-- the least one that is greater than a kept one -/
theorem aboveO_at {xs : List Int} (r : xs.Pairwise (· < ·)) {n : Int} (h : n ∈ xs) : aboveO xs n = xs[placeN xs n + 1]? := by
  unfold aboveO
  have e : (xs.filter fun x => decide (n < x)) = (xs.filter fun x => decide (n ≤ x)).filter fun x => decide (n < x) := by
    rw [List.filter_filter]
    refine List.filter_congr fun x _ => ?_
    by_cases c : n < x
    · rw [decide_eq_true c, decide_eq_true (show n ≤ x by omega)]
      rfl
    · rw [decide_eq_false c]
      rfl
  have hk := place_lt r h
  have h1 : xs.drop (placeN xs n) = n :: xs.drop (placeN xs n + 1) := by
    rw [List.drop_eq_getElem_cons hk]
    have z := at_place r h
    rw [List.getElem?_eq_getElem hk] at z
    rw [Option.some.inj z]
  have rr : (n :: xs.drop (placeN xs n + 1)).Pairwise (· < ·) := by
    rw [← h1]
    exact r.sublist (List.drop_sublist _ _)
  rw [e, filt_place_ge r, h1, List.filter_cons, if_neg (by rw [decide_eq_false (by omega)]; decide), List.filter_eq_self.mpr fun x hx => decide_eq_true ((List.pairwise_cons.mp rr).1 x hx), List.head?_drop]
/-! ### on how many levels a number stands -/
def cntN (w : Int) (h : Nat) (xs : List Int) (n : Int) : Nat := match belowO xs n with
  | none => h + 1
  | some b => tallN w h b n
theorem tallO_cnt (w : Int) (h : Nat) (xs : List Int) (n : Int) : tallO w h (belowO xs n) n = (cntN w h xs n : Int) := by
  unfold tallO cntN
  cases belowO xs n with
  | none => exact (Int.natCast_succ h).symm
  | some b => rfl
theorem tallN_le (w : Int) (h : Nat) (b n : Int) : tallN w h b n ≤ h + 1 := by
  have := List.countP_le_length (p := apartP w b n) (l := List.range (h + 1))
  rw [List.length_range] at this
  exact this
theorem cntN_le (w : Int) (h : Nat) (xs : List Int) (n : Int) : cntN w h xs n ≤ h + 1 := by
  unfold cntN
  cases belowO xs n with
  | none => exact Nat.le_refl _
  | some b => exact tallN_le w h b n
theorem lt_count {p : Nat → Bool} (hp : ∀ l, p (l + 1) = true → p l = true) {m l : Nat} (h : l < m) : l < (List.range m).countP p ↔ p l = true := by
  have e := filter_down hp m
  have z : l ∈ (List.range m).filter p ↔ l ∈ List.range ((List.range m).countP p) := by rw [e]
  rw [List.mem_filter, List.mem_range, List.mem_range] at z
  exact ⟨fun a => (z.mpr a).2, fun a => z.mp ⟨h, a⟩⟩
theorem apart_iff {w b n : Int} {l : Nat} : apartP w b n l = true ↔ b / w ^ l ≠ n / w ^ l := by
  unfold apartP
  rw [Bool.not_eq_true', decide_eq_false_iff_not]
  exact ⟨fun a e => a (congrArg V.int e), fun a e => a (V.int.inj e)⟩
theorem onLev_cnt {w : Int} (hw : 2 ≤ w) (h : Nat) (xs : List Int) (n : Int) : (List.range (h + 1)).filter (onLev w xs n) = List.range (cntN w h xs n) := by
  unfold cntN
  cases hb : belowO xs n with
  | none =>
    refine List.filter_eq_self.mpr fun l _ => ?_
    unfold onLev
    rw [hb]
  | some b =>
    have lt : b < n := by
      unfold belowO at hb
      obtain ⟨ini, e⟩ := List.getLast?_eq_some_iff.mp hb
      have m : b ∈ (xs.filter fun x => decide (x < n)) := by
        rw [e]
        simp
      exact of_decide_eq_true (List.mem_filter.mp m).2
    have e := filter_down (p := apartP w b n) (fun l hl => apart_down l hl hw) (h + 1)
    show _ = List.range ((List.range (h + 1)).countP (apartP w b n))
    rw [← e]
    refine List.filter_congr fun l _ => ?_
    have le : b / w ^ l ≤ n / w ^ l := Int.ediv_le_ediv (pow_pos' hw l) (by omega)
    have e1 : onLev w xs n l = decide (b / w ^ l < n / w ^ l) := by
      unfold onLev
      rw [hb]
    rw [e1]
    by_cases c : b / w ^ l = n / w ^ l
    · have z : ¬ apartP w b n l = true := fun a => (apart_iff.mp a) c
      rw [Bool.not_eq_true] at z
      rw [z, decide_eq_false (by omega)]
    · rw [apart_iff.mpr c, decide_eq_true (by omega)]
theorem mateO_none {w : Int} {xs : List Int} {n : Int} (h : aboveO xs n = none) (l : Nat) : mateO w xs n l = none := by
  unfold mateO
  rw [h]
theorem mateO_some {w : Int} (hw : 2 ≤ w) {xs : List Int} {n a : Int} (h : aboveO xs n = some a) {hh l : Nat} (hl : l < hh + 1) : mateO w xs n l = if l < tallN w hh n a then none else some a := by
  have z := lt_count (p := apartP w n a) (fun l hl => apart_down l hl hw) hl
  unfold mateO
  rw [h]
  show (if a / w ^ l = n / w ^ l then some a else none) = _
  by_cases c : l < tallN w hh n a
  · have c2 := apart_iff.mp (z.mp c)
    rw [if_pos c, if_neg fun e => c2 e.symm]
  · rw [if_neg c]
    by_cases e : a / w ^ l = n / w ^ l
    · rw [if_pos e]
    · exact absurd (z.mpr (apart_iff.mpr fun q => e q.symm)) c
/-- who else stands there, level by level -/
def heirL (w : Int) (h : Nat) (xs : List Int) (n : Int) : List V := (List.range (cntN w h xs n)).map fun l => oV (mateO w xs n l)
theorem heirL_len (w : Int) (h : Nat) (xs : List Int) (n : Int) : (heirL w h xs n).length = cntN w h xs n := by
  unfold heirL
  rw [List.length_map, List.length_range]
theorem heirL_at {w : Int} {h : Nat} {xs : List Int} {n : Int} {i : Nat} {x : V} (e : (heirL w h xs n)[i]? = some x) : x = oV (mateO w xs n i) := by
  unfold heirL at e
  rw [List.getElem?_map] at e
  obtain ⟨j, hj, rfl⟩ := Option.map_eq_some_iff.mp e
  obtain ⟨h1, h2⟩ := List.getElem?_eq_some_iff.mp hj
  rw [List.getElem_range] at h2
  rw [h2]
theorem chPut_cnt {w : Int} (hw : 2 ≤ w) (h : Nat) (xs : List Int) (n : Int) : chPut w h xs n = (List.range (cntN w h xs n)).map fun l => dCh l (some n) (mateO w xs n l) := by
  unfold chPut
  rw [onLev_cnt hw]
theorem chTake_cnt {w : Int} (hw : 2 ≤ w) (h : Nat) (xs : List Int) (n : Int) : chTake w h xs n = (List.range (cntN w h xs n)).map fun l => dCh l (mateO w xs n l) (some n) := by
  unfold chTake
  rw [onLev_cnt hw]
/-! ### a number put in, taken out, in the row -/
theorem insR_below (n : Int) (xs : List Int) : belowO (insR n xs) n = belowO xs n := by
  unfold belowO insR
  rw [List.filter_append, List.filter_filter, List.filter_cons, if_neg (by simp), List.filter_filter]
  have e1 : (xs.filter fun a => decide (a < n) && decide (a < n)) = xs.filter fun a => decide (a < n) := List.filter_congr fun x _ => Bool.and_self _
  have e2 : (xs.filter fun a => decide (a < n) && decide (n < a)) = [] := List.filter_eq_nil_iff.mpr fun x _ => by
    rw [Bool.and_eq_true, decide_eq_true_iff, decide_eq_true_iff]
    omega
  rw [e1, e2, List.append_nil]
theorem insR_above (n : Int) (xs : List Int) : aboveO (insR n xs) n = aboveO xs n := by
  unfold aboveO insR
  rw [List.filter_append, List.filter_filter, List.filter_cons, if_neg (by simp), List.filter_filter]
  have e1 : (xs.filter fun a => decide (n < a) && decide (n < a)) = xs.filter fun a => decide (n < a) := List.filter_congr fun x _ => Bool.and_self _
  have e2 : (xs.filter fun a => decide (n < a) && decide (a < n)) = [] := List.filter_eq_nil_iff.mpr fun x _ => by
    rw [Bool.and_eq_true, decide_eq_true_iff, decide_eq_true_iff]
    omega
  rw [e1, e2, List.nil_append]
theorem insR_mate (w n : Int) (xs : List Int) (l : Nat) : mateO w (insR n xs) n l = mateO w xs n l := by
  unfold mateO
  rw [insR_above]
theorem insR_cnt (w : Int) (h : Nat) (n : Int) (xs : List Int) : cntN w h (insR n xs) n = cntN w h xs n := by
  unfold cntN
  rw [insR_below]
/-- the row with the number put where it belongs -/
theorem insR_at {n : Int} {xs : List Int} (r : xs.Pairwise (· < ·)) (h : n ∉ xs) : xs.take (placeN xs n) ++ [n] ++ xs.drop (placeN xs n) = insR n xs := by
  unfold insR
  rw [filt_place r, ← filt_place_ge r, List.append_assoc]
  have e : (xs.filter fun x => decide (n ≤ x)) = xs.filter fun x => decide (n < x) := List.filter_congr fun x hx => by
    have : x ≠ n := fun e => h (e ▸ hx)
    by_cases c : n < x
    · rw [decide_eq_true c, decide_eq_true (by omega)]
    · rw [decide_eq_false c, decide_eq_false (by omega)]
  rw [e]
  rfl
/-- the row with the number taken out -/
theorem remR_at {n : Int} {xs : List Int} (r : xs.Pairwise (· < ·)) (h : n ∈ xs) : xs.eraseIdx (placeN xs n) = remR n xs := by
  have hk := place_lt r h
  have h1 : xs[placeN xs n] = n := by
    have z := at_place r h
    rw [List.getElem?_eq_getElem hk] at z
    exact Option.some.inj z
  unfold remR
  rw [List.eraseIdx_eq_take_drop_succ]
  have e := List.take_append_drop (placeN xs n) xs
  have r2 : xs = xs.take (placeN xs n) ++ (n :: xs.drop (placeN xs n + 1)) := by
    have z := List.drop_eq_getElem_cons hk
    rw [h1] at z
    rw [← z, e]
  have rp : (xs.take (placeN xs n) ++ (n :: xs.drop (placeN xs n + 1))).Pairwise (· < ·) := by
    rw [← r2]
    exact r
  have rq := List.pairwise_append.mp rp
  have f1 : (xs.take (placeN xs n)).filter (fun x => !decide (x = n)) = xs.take (placeN xs n) := List.filter_eq_self.mpr fun x hx => by
    have := rq.2.2 x hx n List.mem_cons_self
    rw [Bool.not_eq_true', decide_eq_false_iff_not]
    omega
  have f2 : (xs.drop (placeN xs n + 1)).filter (fun x => !decide (x = n)) = xs.drop (placeN xs n + 1) := List.filter_eq_self.mpr fun x hx => by
    have := (List.pairwise_cons.mp rq.2.1).1 x hx
    rw [Bool.not_eq_true', decide_eq_false_iff_not]
    omega
  calc xs.take (placeN xs n) ++ xs.drop (placeN xs n + 1) = (xs.take (placeN xs n) ++ (n :: xs.drop (placeN xs n + 1))).filter (fun x => !decide (x = n)) := by
        rw [List.filter_append, List.filter_cons, if_neg (by simp), f1, f2]
    _ = xs.filter (fun x => !decide (x = n)) := by rw [← r2]
/-! the promises of the blocks -/
def sp_power (_ : PySem.W.Frag) : Sp := fun vs H Q _ => ∃ (wd : Int) (l : Nat), vs = [.int wd, .int (l : Int)] ∧ 2 ≤ wd ∧ wd ≤ 9 ∧ l ≤ 12 ∧ Q (.int (wd ^ l)) H
def sp_block (_ : PySem.W.Frag) : Sp := fun vs H Q _ => ∃ (wd : Int) (l : Nat) (n : Int), vs = [.int wd, .int (l : Int), .int n] ∧ 2 ≤ wd ∧ wd ≤ 9 ∧ l ≤ 12 ∧ Q (.int (n / wd ^ l)) H
/-- a field of an instance that is there -/
theorem ev_fld {K : PySem.W.Frag} {te : TE} {σ : L2.St} {H : Hp} {a C dx : Addr} {fs : List (Str × V)} {f : Str} {v : V} (h : Evl.Ev te σ H (.ref a)) (hp : H a = some (.ins C dx fs)) (c : Cls K C) (n : NoAttr K C f) (l : fs.lookup f = some v) : Evl.Ev (tFld K te f) σ H v := fun H1 e Q q =>
  h H1 e _ fun H2 e2 => ⟨a, C, dx, fs, v, rfl, e2 _ _ (e _ _ hp), c, n, l, q H2 e2⟩
/-- a comprehension over enumerate(xs) -/
theorem lc_enumL {K : PySem.W.Frag} {a : Addr} {xs : List V} {g : TG} {tt : TT} {te : TE} {vs : List Nat} {σ : L2.St} {H1 : Hp} {D : Addr} {Qd : Hp → Prop} (Pv : Nat → Hp → Prop) (start : Pv 0 (upd H1 D (.lst [])))
    (still : ∀ i H, Pv i H → SqL K H a xs)
    (turn : ∀ (i : Nat) (x : V) (T : Addr) (H : Hp), xs[i]? = some x → Pv i H → H T = none → g (.ref T) (wipe σ vs) (upd H T (.tup [.int (i : Nat), x])) fun σ2 H2 => wipe σ2 vs = wipe σ vs ∧ tt σ2 H2 fun b H3 =>
      if b = true then te σ2 H3 fun y H4 => ∃ acc, H4 D = some (.lst acc) ∧ acc.length < sizeLine ∧ Pv (i + 1) (upd H4 D (.lst (acc ++ [y]))) else Pv (i + 1) H3) (fin : ∀ H, Pv xs.length H → Qd H) :
    ∃ W : Nat → Nat → Hp → Prop, (∃ m, W 0 m (upd H1 D (.lst []))) ∧ ∀ i m H, W i m H →
      ((Ite K a).stop i H ∧ Qd H) ∨ ((Ite K a).go i H ∧ ∃ Nx : Hp → Prop, (∀ H', Nx H' → ∃ m', m' < m ∧ W (i + 1) m' H') ∧ ∀ x H', (Ite K a).yld i H x H' → g x (wipe σ vs) H' fun σ2 H2 => wipe σ2 vs = wipe σ vs ∧ tt σ2 H2 fun b H3 =>
        if b = true then te σ2 H3 fun y H4 => ∃ acc, H4 D = some (.lst acc) ∧ acc.length < sizeLine ∧ Nx (upd H4 D (.lst (acc ++ [y]))) else Nx H3) := by
  refine ⟨fun i m H => Pv i H ∧ i ≤ xs.length ∧ m + i = xs.length, ⟨xs.length, start, Nat.zero_le _, rfl⟩, fun i m H hW => ?_⟩
  obtain ⟨hp, hi, hm⟩ := hW
  have hq := still i H hp
  rcases Nat.lt_or_ge i xs.length with lt | ge
  · exact .inr ⟨⟨xs, xs[i], hq, List.getElem?_eq_getElem lt⟩, Pv (i + 1), fun H' hp' => ⟨m - 1, by omega, hp', by omega, by omega⟩, fun v H' hy => by
      obtain ⟨T, x, rfl, nT, rfl, fx⟩ := hy
      exact turn i x T H (fx xs hq) hp nT⟩
  · have ei : i = xs.length := by omega
    subst ei
    exact .inl ⟨⟨xs, hq, Nat.le_refl _⟩, fin H hp⟩
/-- what a deed's comprehension has made: G1 what the asker knows, Hc the heap ahead of it -/
structure Made (G Hc G1 H : Hp) (D : Addr) (F : Addr → Prop) (us : List V) (ds : List PyData) : Prop where
  g1 : Same G G1
  sub : Same G1 H
  hc : Same Hc H
  out : ∀ b, F b → G1 b = none
  there : ∀ b, F b → ∃ o, Hc b = some o
  gD : G1 D = none
  nD : Hc D = none
  eD : H D = some (.lst us)
  all : DhAll G1 us ds
theorem Made.step {G Hc G1 H : Hp} {D T t : Addr} {F : Addr → Prop} {us : List V} {ds : List PyData} {o : HO} {zs : List V} {es : List PyData} (m : Made G Hc G1 H D F us ds) (nT : H T = none) (nt : upd H T o t = none) (h : ∀ G2, DhAll G2 zs es) :
    Made G Hc (upd G1 t (.tup zs)) (upd (upd (upd H T o) t (.tup zs)) D (.lst (us ++ [.ref t]))) D F (us ++ [.ref t]) (ds ++ [.tuple es]) := by
  have tT : t ≠ T := fun e => by
    rw [e, upd_same] at nt
    cases nt
  have nt2 : H t = none := by
    rw [upd_ne tT] at nt
    exact nt
  have gt : G1 t = none := Same.free m.sub nt2
  have gT : G1 T = none := Same.free m.sub nT
  have ct : Hc t = none := Same.free m.hc nt2
  have cT : Hc T = none := Same.free m.hc nT
  have Dt : D ≠ t := ne_of_none m.eD nt2
  have DT : D ≠ T := ne_of_none m.eD nT
  refine ⟨m.g1.trans (same_upd gt), fun b u e => ?_, fun b u e => ?_, fun b fb => ?_, m.there, by rw [upd_ne Dt]; exact m.gD, m.nD, upd_same, ?_⟩
  · by_cases hb : b = t
    · subst hb
      rw [upd_same] at e
      rw [upd_ne Dt.symm, upd_same]
      exact e
    · rw [upd_ne hb] at e
      have bD : b ≠ D := ne_of_none e m.gD
      have bT : b ≠ T := ne_of_none e gT
      rw [upd_ne bD, upd_ne hb, upd_ne bT]
      exact m.sub _ _ e
  · rw [upd_ne (ne_of_none e m.nD), upd_ne (ne_of_none e ct), upd_ne (ne_of_none e cT)]
    exact m.hc _ _ e
  · obtain ⟨u, e⟩ := m.there b fb
    rw [upd_ne (ne_of_none e ct)]
    exact m.out b fb
  · exact (m.all.same (same_upd gt)).snoc (.tup upd_same (h _))
theorem Made.step0 {G Hc G1 H : Hp} {D t : Addr} {F : Addr → Prop} {us : List V} {ds : List PyData} {zs : List V} {es : List PyData} (m : Made G Hc G1 H D F us ds) (nt : H t = none) (h : ∀ G2, DhAll G2 zs es) :
    Made G Hc (upd G1 t (.tup zs)) (upd (upd H t (.tup zs)) D (.lst (us ++ [.ref t]))) D F (us ++ [.ref t]) (ds ++ [.tuple es]) := by
  have gt : G1 t = none := Same.free m.sub nt
  have ct : Hc t = none := Same.free m.hc nt
  have Dt : D ≠ t := ne_of_none m.eD nt
  refine ⟨m.g1.trans (same_upd gt), fun b u e => ?_, fun b u e => ?_, fun b fb => ?_, m.there, by rw [upd_ne Dt]; exact m.gD, m.nD, upd_same, ?_⟩
  · by_cases hb : b = t
    · subst hb
      rw [upd_same] at e
      rw [upd_ne Dt.symm, upd_same]
      exact e
    · rw [upd_ne hb] at e
      have bD : b ≠ D := ne_of_none e m.gD
      rw [upd_ne bD, upd_ne hb]
      exact m.sub _ _ e
  · rw [upd_ne (ne_of_none e m.nD), upd_ne (ne_of_none e ct)]
    exact m.hc _ _ e
  · obtain ⟨u, e⟩ := m.there b fb
    rw [upd_ne (ne_of_none e ct)]
    exact m.out b fb
  · exact (m.all.same (same_upd gt)).snoc (.tup upd_same (h _))
theorem Made.grow {G Hc G1 H H' : Hp} {D : Addr} {F : Addr → Prop} {us : List V} {ds : List PyData} (m : Made G Hc G1 H D F us ds) (s : Same H H') : Made G Hc G1 H' D F us ds :=
  ⟨m.g1, m.sub.trans s, m.hc.trans s, m.out, m.there, m.gD, m.nD, s _ _ m.eD, m.all⟩
/-- what the asker knows at last -/
theorem Made.view {K : PySem.W.Frag} {C : Addr} {R : Rep K C} {G Hc G1 H : Hp} {D p : Addr} {w : Int} {h : Nat} {xs : List Int} {F : Addr → Prop} {us : List V} {ds : List PyData} (m : Made G Hc G1 H D F us ds) (l : R.Lad H p w h xs F) : View R (upd G1 D (.lst us)) H p w h xs F :=
  ⟨l, fun c u e => by
    by_cases hc : c = D
    · subst hc
      rw [upd_same] at e
      rw [← e]
      exact m.eD
    · rw [upd_ne hc] at e
      exact m.sub _ _ e, fun c fc => by
    have hc : c ≠ D := fun z => by
      obtain ⟨o, e⟩ := m.there c fc
      rw [z, m.nD] at e
      cases e
    rw [upd_ne hc]
    exact m.out c fc⟩
/-! ### the next one on a level, by the row's places -/
theorem lt_place {xs : List Int} (r : xs.Pairwise (· < ·)) {n : Int} {i : Nat} (h : i < xs.length) : i < placeN xs n ↔ xs.getD i 0 < n := by
  have hl := placeN_le xs n
  constructor
  · intro c
    have m : xs.getD i 0 ∈ xs.take (placeN xs n) := by
      rw [getD_eq h]
      exact List.mem_take_iff_getElem.mpr ⟨i, by omega, rfl⟩
    rw [← filt_place r] at m
    exact of_decide_eq_true (List.mem_filter.mp m).2
  · intro c
    have m : xs.getD i 0 ∈ xs.filter fun x => decide (x < n) := List.mem_filter.mpr ⟨mem_at h, decide_eq_true c⟩
    rw [filt_place r] at m
    obtain ⟨j, hj, e⟩ := List.mem_take_iff_getElem.mp m
    have j1 : j < xs.length := by omega
    have j2 : j < placeN xs n := by omega
    have e2 : xs.getD j 0 = xs.getD i 0 := by rw [getD_eq j1, e]
    rcases Nat.lt_trichotomy i j with c2 | c2 | c2
    · have := rise_getD r c2 j1
      omega
    · omega
    · have := rise_getD r c2 h
      omega
/-- the first number of the block behind x's -/
def behindN (w : Int) (l : Nat) (x : Int) : Int := x / w ^ l * w ^ l + w ^ l
def reachN (w : Int) (l : Nat) (xs : List Int) (i : Nat) : Nat := placeN xs (behindN w l (xs.getD i 0))
theorem lt_behind {w : Int} (hw : 2 ≤ w) {l : Nat} {x y : Int} : y < behindN w l x ↔ y / w ^ l ≤ x / w ^ l := by
  have p := pow_pos' hw l
  unfold behindN
  have e : x / w ^ l * w ^ l + w ^ l = (x / w ^ l + 1) * w ^ l := by rw [Int.add_mul, Int.one_mul]
  rw [e, ← Int.ediv_lt_iff_lt_mul p]
  omega
theorem reach_gt {w : Int} (hw : 2 ≤ w) {l : Nat} {xs : List Int} (r : xs.Pairwise (· < ·)) {i : Nat} (h : i < xs.length) : i < reachN w l xs i := (lt_place r h).mpr ((lt_behind hw).mpr (Int.le_refl _))
theorem reach_le (w : Int) (l : Nat) (xs : List Int) (i : Nat) : reachN w l xs i ≤ xs.length := placeN_le _ _
theorem next_reach {w : Int} (hw : 2 ≤ w) {l : Nat} {xs : List Int} (r : xs.Pairwise (· < ·)) {i : Nat} (h : i < xs.length) : nextO w l xs (xs.getD i 0) = xs[reachN w l xs i]? := by
  have p := pow_pos' hw l
  have gt := reach_gt hw (l := l) r h
  have le := reach_le w l xs i
  have mono : ∀ {a b : Nat}, a ≤ b → b < xs.length → xs.getD a 0 / w ^ l ≤ xs.getD b 0 / w ^ l := fun {a b} ab bl => by
    rcases Nat.lt_or_ge a b with c | c
    · exact Int.ediv_le_ediv p (Int.le_of_lt (rise_getD r c bl))
    · have : a = b := by omega
      rw [this]
      exact Int.le_refl _
  have same : ∀ k, i ≤ k → k < reachN w l xs i → xs.getD k 0 / w ^ l = xs.getD i 0 / w ^ l := fun k k1 k2 => by
    have kl : k < xs.length := by omega
    have a1 := (lt_behind hw).mp ((lt_place r kl).mp k2)
    have a2 := mono k1 kl
    omega
  rw [nextO_idx r h, plac_next gt le (fun k k1 k2 => by rw [same k (by omega) k2, same (k - 1) (by omega) (by omega)]) (fun lt e => by
    have a1 : ¬ xs.getD (reachN w l xs i) 0 < behindN w l (xs.getD i 0) := fun z => absurd ((lt_place r lt).mpr z) (Nat.lt_irrefl _)
    rw [same (reachN w l xs i - 1) (by omega) (by omega)] at e
    exact a1 ((lt_behind hw).mpr (by omega)))]
  by_cases c : reachN w l xs i < xs.length
  · rw [if_pos c, List.getElem?_eq_getElem c]
    show some (xs.getD (reachN w l xs i) 0) = _
    rw [getD_eq c]
  · rw [if_neg c, List.getElem?_eq_none (by omega)]
    rfl
/-- the first number of a block, and who stands there -/
def beginN (w : Int) (l : Nat) (x : Int) : Int := x / w ^ l * w ^ l
theorem begin_le {w : Int} (hw : 2 ≤ w) {l : Nat} {x y : Int} : beginN w l x ≤ y ↔ x / w ^ l ≤ y / w ^ l := by
  have p := pow_pos' hw l
  unfold beginN
  rw [← Int.le_ediv_iff_mul_le p]
theorem lev_begin {w : Int} (hw : 2 ≤ w) {l : Nat} {xs : List Int} (r : xs.Pairwise (· < ·)) {n : Int} : n ∈ levL w l xs ↔ xs[placeN xs (beginN w l n)]? = some n := by
  rw [mem_lev hw r, ← aboveEq_at r]
  constructor
  · rintro ⟨hn, ld⟩
    have mn : n ∈ xs.filter fun x => decide (beginN w l n ≤ x) := List.mem_filter.mpr ⟨hn, decide_eq_true ((begin_le hw).mpr (Int.le_refl _))⟩
    cases hh : (xs.filter fun x => decide (beginN w l n ≤ x)).head? with
    | none =>
      rw [List.head?_eq_none_iff] at hh
      rw [hh] at mn
      cases mn
    | some z =>
      obtain ⟨mz, lz⟩ := head_min (r.filter _) hh
      have zn := lz n mn
      have mz2 := List.mem_filter.mp mz
      have z1 := (begin_le hw).mp (of_decide_eq_true mz2.2)
      have z2 : z / w ^ l ≤ n / w ^ l := Int.ediv_le_ediv (pow_pos' hw l) zn
      by_cases c : z < n
      · exact absurd (by omega) (ld z mz2.1 c)
      · rw [show z = n by omega]
  · intro hh
    obtain ⟨mz, lz⟩ := head_min (r.filter _) hh
    refine ⟨(List.mem_filter.mp mz).1, fun y hy lt e => ?_⟩
    have := lz y (List.mem_filter.mpr ⟨hy, decide_eq_true ((begin_le hw).mpr (by omega))⟩)
    omega
/-- how far it is to the next one -/
theorem gap_reach {w : Int} (hw : 2 ≤ w) {l : Nat} {xs : List Int} (r : xs.Pairwise (· < ·)) {i : Nat} (h : i < xs.length) : (gapN w l xs (xs.getD i 0) : Int) = (reachN w l xs i : Int) - (i : Int) := by
  have gt := reach_gt hw (l := l) r h
  have le := reach_le w l xs i
  unfold gapN
  rw [next_reach hw r h]
  by_cases c : reachN w l xs i < xs.length
  · rw [List.getElem?_eq_getElem c]
    have z := place_gap (xs.getD i 0) (xs.getD (reachN w l xs i) 0) (Int.le_of_lt (rise_getD r gt c)) xs
    rw [placeN_at r h, placeN_at r c] at z
    rw [getD_eq c] at z
    show ((xs.filter fun x => decide (xs.getD i 0 ≤ x) && decide (x < xs[reachN w l xs i])).length : Int) = _
    omega
  · rw [List.getElem?_eq_none (by omega)]
    have e : (xs.filter fun x => decide (xs.getD i 0 ≤ x) && true) = xs.filter fun x => decide (xs.getD i 0 ≤ x) := List.filter_congr fun x _ => Bool.and_true _
    have z := place_rest (xs.getD i 0) xs
    rw [placeN_at r h] at z
    show ((xs.filter fun x => decide (xs.getD i 0 ≤ x) && true).length : Int) = _
    rw [e]
    omega
/-- a step of a trail, by the places -/
theorem trail_idx {w : Int} (hw : 2 ≤ w) {xs : List Int} (r : xs.Pairwise (· < ·)) (n : Int) (l : Nat) {i : Nat} (h : i < xs.length) : trailC w xs n l (xs.getD i 0) = (l, xs.getD i 0) ::
    if reachN w l xs i < placeN xs (n + 1) then trailC w xs n l (xs.getD (reachN w l xs i) 0) else downT w xs n l (xs.getD i 0) := by
  have pl := placeN_le xs (n + 1)
  rw [trailC_step r, next_reach hw r h]
  congr 1
  by_cases c : reachN w l xs i < xs.length
  · rw [List.getElem?_eq_getElem c, getD_eq c]
    show (if xs[reachN w l xs i] ≤ n then _ else _) = _
    have z := lt_place r (n := n + 1) c
    rw [getD_eq c] at z
    by_cases c2 : reachN w l xs i < placeN xs (n + 1)
    · rw [if_pos c2, if_pos (by have := z.mp c2; omega)]
    · rw [if_neg c2, if_neg fun q => c2 (z.mpr (by omega))]
  · rw [List.getElem?_eq_none (by omega), if_neg (by omega)]
/-- what is left of a trail at a level (one more than it, none at 0) and a place -/
def restW (w : Int) (xs : List Int) (n : Int) (i : Nat) : Nat → List (Nat × Int)
  | 0 => []
  | l + 1 => trailC w xs n l (xs.getD i 0)
theorem restW_step {w : Int} (hw : 2 ≤ w) {xs : List Int} (r : xs.Pairwise (· < ·)) (n : Int) (l : Nat) {i : Nat} (h : i < xs.length) : restW w xs n i (l + 1) = (l, xs.getD i 0) ::
    if reachN w l xs i < placeN xs (n + 1) then restW w xs n (reachN w l xs i) (l + 1) else restW w xs n i l := by
  show trailC w xs n l (xs.getD i 0) = _
  rw [trail_idx hw r n l h]
  cases l <;> rfl
theorem trailR_rest {w : Int} {h : Nat} {xs : List Int} (r : xs.Pairwise (· < ·)) (n : Int) : trailR w h xs n = if placeN xs (n + 1) = 0 then [] else restW w xs n 0 (h + 1) := by
  cases xs with
  | nil =>
    exact (if_pos (show placeN [] (n + 1) = 0 from rfl)).symm
  | cons x rest =>
    have z := lt_place r (n := n + 1) (i := 0) (by simp)
    have z2 : 0 < placeN (x :: rest) (n + 1) ↔ x < n + 1 := z
    show (if x ≤ n then trailC w (x :: rest) n h x else []) = _
    by_cases c : x ≤ n
    · rw [if_pos c, if_neg (by have := z2.mpr (by omega); omega)]
      rfl
    · rw [if_neg c, if_pos (by
        rcases Nat.eq_zero_or_pos (placeN (x :: rest) (n + 1)) with e | e
        · exact e
        · have := z2.mp e
          omega)]
theorem place_next {xs : List Int} (r : xs.Pairwise (· < ·)) {j : Nat} (h : j < xs.length) : placeN xs (xs.getD j 0 + 1) = j + 1 := by
  have a := (lt_place r (n := xs.getD j 0 + 1) h).mpr (by omega)
  have hl := placeN_le xs (xs.getD j 0 + 1)
  rcases Nat.lt_or_ge (j + 1) (placeN xs (xs.getD j 0 + 1)) with c | c
  · have := (lt_place r (n := xs.getD j 0 + 1) (i := j + 1) (by omega)).mp c
    have := rise_getD r (show j < j + 1 by omega) (show j + 1 < xs.length by omega)
    omega
  · omega
theorem belowEq_at {xs : List Int} (r : xs.Pairwise (· < ·)) (n : Int) : belowEq xs n = if placeN xs (n + 1) = 0 then none else xs[placeN xs (n + 1) - 1]? := by
  rw [← belowO_at r (n + 1)]
  unfold belowEq belowO
  refine congrArg List.getLast? (List.filter_congr fun x _ => ?_)
  by_cases c : x ≤ n
  · rw [decide_eq_true c, decide_eq_true (by omega)]
  · rw [decide_eq_false c, decide_eq_false (by omega)]
/-! ### all that is no ladder's -/
noncomputable def outF (F : Addr → Prop) (H : Hp) : Hp := fun b => @ite _ (F b) (Classical.propDecidable _) none (H b)
theorem outF_in {F : Addr → Prop} {H : Hp} {b : Addr} (h : F b) : outF F H b = none := by
  unfold outF
  rw [if_pos h]
theorem outF_out {F : Addr → Prop} {H : Hp} {b : Addr} (h : ¬ F b) : outF F H b = H b := by
  unfold outF
  rw [if_neg h]
theorem outF_some {F : Addr → Prop} {H : Hp} {b : Addr} {o : HO} (h : outF F H b = some o) : ¬ F b ∧ H b = some o := by
  by_cases c : F b
  · rw [outF_in c] at h
    cases h
  · rw [outF_out c] at h
    exact ⟨c, h⟩
theorem view_out {K : PySem.W.Frag} {C : Addr} {R : Rep K C} {H : Hp} {p : Addr} {w : Int} {h : Nat} {xs : List Int} {F : Addr → Prop} (l : R.Lad H p w h xs F) : View R (outF F H) H p w h xs F :=
  ⟨l, fun _ _ e => (outF_some e).2, fun _ f => outF_in f⟩
/-- what a deed on the ladder of F leaves: F' is the ladder's then -/
def Frame (F F' : Addr → Prop) (H H' : Hp) : Prop := ∀ b o, ¬ F b → H b = some o → H' b = some o ∧ ¬ F' b
theorem Frame.refl (F : Addr → Prop) {H H' : Hp} (s : Same H H') : Frame F F H H' := fun _ _ nf e => ⟨s _ _ e, nf⟩
theorem Frame.trans {F F' F2 : Addr → Prop} {H H' H2 : Hp} (a : Frame F F' H H') (b : Frame F' F2 H' H2) : Frame F F2 H H2 := fun c o nf e => b c o (a c o nf e).2 (a c o nf e).1
theorem frame_view {K : PySem.W.Frag} {C : Addr} {R : Rep K C} {H H' G' : Hp} {p : Addr} {w : Int} {h : Nat} {xs : List Int} {F F' : Addr → Prop} (v : View R G' H' p w h xs F') (s : Same (outF F H) G') : Frame F F' H H' := fun b o nf e => by
  have e2 := s b o (by rw [outF_out nf]; exact e)
  exact ⟨v.sub _ _ e2, fun f => by
    rw [v.out b f] at e2
    cases e2⟩
/-- another ladder stays -/
theorem Frame.lad {K : PySem.W.Frag} {C : Addr} {R : Rep K C} {H H' : Hp} {q : Addr} {w : Int} {h : Nat} {ys : List Int} {F F' F2 : Addr → Prop} (f : Frame F F' H H') (l : R.Lad H q w h ys F2) (d : ∀ b, F b → ¬ F2 b) : R.Lad H' q w h ys F2 ∧ ∀ b, F' b → ¬ F2 b :=
  ⟨R.stay l fun b o fb e => (f b o (fun z => d b z fb) e).1, fun b f1 f2 => by
    obtain ⟨o, e⟩ := R.there l b f2
    exact (f b o (fun z => d b z f2) e).2 f1⟩
/-- one row poured into another one -/
def pourL (ys xs : List Int) : List Int := ys.foldl (fun acc y => insR y acc) xs
theorem mem_pourL : ∀ {ys xs : List Int} {x : Int}, x ∈ pourL ys xs ↔ x ∈ ys ∨ x ∈ xs
  | [], xs, x => ⟨fun h => .inr h, fun h => h.elim (fun z => nomatch z) id⟩
  | y :: ys, xs, x => by
    show x ∈ pourL ys (insR y xs) ↔ _
    rw [mem_pourL, mem_insR, List.mem_cons]
    constructor
    · rintro (h | h | ⟨h, _⟩)
      · exact .inl (.inr h)
      · exact .inl (.inl h)
      · exact .inr h
    · rintro ((h | h) | h)
      · exact .inr (.inl h)
      · exact .inl h
      · by_cases c : x = y
        · exact .inr (.inl c)
        · exact .inr (.inr ⟨h, c⟩)
theorem pourL_next {ys xs : List Int} {i : Nat} (h : i < ys.length) : pourL (ys.take (i + 1)) xs = insR (ys.getD i 0) (pourL (ys.take i) xs) := by
  unfold pourL
  rw [List.take_succ, List.getElem?_eq_getElem h, List.foldl_append, getD_eq h]
  rfl
theorem pourL_rise : ∀ {ys xs : List Int}, xs.Pairwise (· < ·) → (pourL ys xs).Pairwise (· < ·)
  | [], _, r => r
  | y :: ys, xs, r => pourL_rise (ys := ys) (insR_rise r)
theorem nodup_at {ys : List Int} (r : ys.Nodup) {i : Nat} (h : i < ys.length) : ys.getD i 0 ∉ ys.take i := fun m => by
  obtain ⟨j, hj, e⟩ := List.mem_take_iff_getElem.mp m
  have jl : j < ys.length := by omega
  have q := List.pairwise_iff_getElem.mp (List.nodup_iff_pairwise_ne.mp r) j i jl h (by omega)
  rw [getD_eq h] at e
  exact q e
theorem pourL_perm : ∀ {ys xs : List Int}, ys.Nodup → (∀ y ∈ ys, y ∉ xs) → (pourL ys xs).Perm (ys ++ xs)
  | [], _, _, _ => List.Perm.refl _
  | y :: ys, xs, r, d => by
    have rr := List.nodup_cons.mp r
    refine (pourL_perm (ys := ys) (xs := insR y xs) rr.2 fun z hz m => ?_).trans ?_
    · rcases mem_insR.mp m with e | ⟨m2, _⟩
      · exact rr.1 (e ▸ hz)
      · exact d z (List.mem_cons_of_mem _ hz) m2
    · exact (List.Perm.append_left ys (insR_perm (d y List.mem_cons_self))).trans List.perm_middle
theorem pourL_len {ys xs : List Int} (r : ys.Nodup) (d : ∀ y ∈ ys, y ∉ xs) : (pourL ys xs).length = ys.length + xs.length := by
  rw [(pourL_perm r d).length_eq, List.length_append]
theorem rise_nodup {xs : List Int} (r : xs.Pairwise (· < ·)) : xs.Nodup := r.imp fun h => Int.ne_of_lt h
structure Txt (K : PySem.W.Frag) (mg : Str → Option Value) : Type where
  f_power : Addr
  fd_power : FuncData
  F_power : Fun K "power" "power" s_power f_power fd_power
  bd_power : Binds K fd_power ["width", "level"] []
  g_power : mg "power" = some (.ref f_power)
  f_block : Addr
  fd_block : FuncData
  F_block : Fun K "block" "block" s_block f_block fd_block
  bd_block : Binds K fd_block ["width", "level", "number"] []
  g_block : mg "block" = some (.ref f_block)
  f_thinned : Addr
  fd_thinned : FuncData
  F_thinned : Fun K "thinned" "thinned" s_thinned f_thinned fd_thinned
  bd_thinned : Binds K fd_thinned ["width", "level", "row"] []
  g_thinned : mg "thinned" = some (.ref f_thinned)
  f_tall : Addr
  fd_tall : FuncData
  F_tall : Fun K "tall" "tall" s_tall f_tall fd_tall
  bd_tall : Binds K fd_tall ["width", "high", "before", "number"] []
  g_tall : mg "tall" = some (.ref f_tall)
  f_ladder_init : Addr
  fd_ladder_init : FuncData
  F_ladder_init : Fun K "__init__" "Ladder.__init__" s_ladder_init f_ladder_init fd_ladder_init
  bd_ladder_init : Binds K fd_ladder_init ["self", "width", "high"] []
  f_ladder_put : Addr
  fd_ladder_put : FuncData
  F_ladder_put : Fun K "put" "Ladder.put" s_ladder_put f_ladder_put fd_ladder_put
  bd_ladder_put : Binds K fd_ladder_put ["self", "number"] []
  f_ladder_take : Addr
  fd_ladder_take : FuncData
  F_ladder_take : Fun K "take" "Ladder.take" s_ladder_take f_ladder_take fd_ladder_take
  bd_ladder_take : Binds K fd_ladder_take ["self", "number"] []
  f_ladder_has : Addr
  fd_ladder_has : FuncData
  F_ladder_has : Fun K "has" "Ladder.has" s_ladder_has f_ladder_has fd_ladder_has
  bd_ladder_has : Binds K fd_ladder_has ["self", "number"] []
  f_ladder_row : Addr
  fd_ladder_row : FuncData
  F_ladder_row : Fun K "row" "Ladder.row" s_ladder_row f_ladder_row fd_ladder_row
  bd_ladder_row : Binds K fd_ladder_row ["self"] []
  f_ladder_level : Addr
  fd_ladder_level : FuncData
  F_ladder_level : Fun K "level" "Ladder.level" s_ladder_level f_ladder_level fd_ladder_level
  bd_ladder_level : Binds K fd_ladder_level ["self", "level"] []
  f_ladder_ahead : Addr
  fd_ladder_ahead : FuncData
  F_ladder_ahead : Fun K "ahead" "Ladder.ahead" s_ladder_ahead f_ladder_ahead fd_ladder_ahead
  bd_ladder_ahead : Binds K fd_ladder_ahead ["self", "level", "number"] []
  f_ladder_trail : Addr
  fd_ladder_trail : FuncData
  F_ladder_trail : Fun K "trail" "Ladder.trail" s_ladder_trail f_ladder_trail fd_ladder_trail
  bd_ladder_trail : Binds K fd_ladder_trail ["self", "number"] []
  f_ladder_below : Addr
  fd_ladder_below : FuncData
  F_ladder_below : Fun K "below" "Ladder.below" s_ladder_below f_ladder_below fd_ladder_below
  bd_ladder_below : Binds K fd_ladder_below ["self", "number"] []
  f_ladder_above : Addr
  fd_ladder_above : FuncData
  F_ladder_above : Fun K "above" "Ladder.above" s_ladder_above f_ladder_above fd_ladder_above
  bd_ladder_above : Binds K fd_ladder_above ["self", "number"] []
  f_ladder_place : Addr
  fd_ladder_place : FuncData
  F_ladder_place : Fun K "place" "Ladder.place" s_ladder_place f_ladder_place fd_ladder_place
  bd_ladder_place : Binds K fd_ladder_place ["self", "number"] []
  f_ladder_at : Addr
  fd_ladder_at : FuncData
  F_ladder_at : Fun K "at" "Ladder.at" s_ladder_at f_ladder_at fd_ladder_at
  bd_ladder_at : Binds K fd_ladder_at ["self", "place"] []
  f_ladder_way : Addr
  fd_ladder_way : FuncData
  F_ladder_way : Fun K "way" "Ladder.way" s_ladder_way f_ladder_way fd_ladder_way
  bd_ladder_way : Binds K fd_ladder_way ["self", "place"] []
  f_ladder_stretch : Addr
  fd_ladder_stretch : FuncData
  F_ladder_stretch : Fun K "stretch" "Ladder.stretch" s_ladder_stretch f_ladder_stretch fd_ladder_stretch
  bd_ladder_stretch : Binds K fd_ladder_stretch ["self", "low", "high"] []
  f_ladder_counted : Addr
  fd_ladder_counted : FuncData
  F_ladder_counted : Fun K "counted" "Ladder.counted" s_ladder_counted f_ladder_counted fd_ladder_counted
  bd_ladder_counted : Binds K fd_ladder_counted ["self", "low", "high"] []
  f_ladder_check_number : Addr
  fd_ladder_check_number : FuncData
  F_ladder_check_number : Fun K "_check_number" "Ladder._check_number" s_ladder_check_number f_ladder_check_number fd_ladder_check_number
  bd_ladder_check_number : Binds K fd_ladder_check_number ["self", "number"] []
  f_ladder_check_end : Addr
  fd_ladder_check_end : FuncData
  F_ladder_check_end : Fun K "_check_end" "Ladder._check_end" s_ladder_check_end f_ladder_check_end fd_ladder_check_end
  bd_ladder_check_end : Binds K fd_ladder_check_end ["self", "number"] []
  f_ladder_check_level : Addr
  fd_ladder_check_level : FuncData
  F_ladder_check_level : Fun K "_check_level" "Ladder._check_level" s_ladder_check_level f_ladder_check_level fd_ladder_check_level
  bd_ladder_check_level : Binds K fd_ladder_check_level ["self", "level"] []
  f_ladder_check_place : Addr
  fd_ladder_check_place : FuncData
  F_ladder_check_place : Fun K "_check_place" "Ladder._check_place" s_ladder_check_place f_ladder_check_place fd_ladder_check_place
  bd_ladder_check_place : Binds K fd_ladder_check_place ["self", "place"] []
  f_ladder_spot : Addr
  fd_ladder_spot : FuncData
  F_ladder_spot : Fun K "_spot" "Ladder._spot" s_ladder_spot f_ladder_spot fd_ladder_spot
  bd_ladder_spot : Binds K fd_ladder_spot ["self", "number"] []
  f_ladder_at_or_none : Addr
  fd_ladder_at_or_none : FuncData
  F_ladder_at_or_none : Fun K "_at_or_none" "Ladder._at_or_none" s_ladder_at_or_none f_ladder_at_or_none fd_ladder_at_or_none
  bd_ladder_at_or_none : Binds K fd_ladder_at_or_none ["self", "spot"] []
  f_ladder_before : Addr
  fd_ladder_before : FuncData
  F_ladder_before : Fun K "_before" "Ladder._before" s_ladder_before f_ladder_before fd_ladder_before
  bd_ladder_before : Binds K fd_ladder_before ["self", "spot"] []
  f_ladder_begin : Addr
  fd_ladder_begin : FuncData
  F_ladder_begin : Fun K "_begin" "Ladder._begin" s_ladder_begin f_ladder_begin fd_ladder_begin
  bd_ladder_begin : Binds K fd_ladder_begin ["self", "level", "number"] []
  f_ladder_reach : Addr
  fd_ladder_reach : FuncData
  F_ladder_reach : Fun K "_reach" "Ladder._reach" s_ladder_reach f_ladder_reach fd_ladder_reach
  bd_ladder_reach : Binds K fd_ladder_reach ["self", "level", "spot"] []
  f_ladder_heirs : Addr
  fd_ladder_heirs : FuncData
  F_ladder_heirs : Fun K "_heirs" "Ladder._heirs" s_ladder_heirs f_ladder_heirs fd_ladder_heirs
  bd_ladder_heirs : Binds K fd_ladder_heirs ["self", "number"] []
  f_ladder_walk : Addr
  fd_ladder_walk : FuncData
  F_ladder_walk : Fun K "_walk" "Ladder._walk" s_ladder_walk f_ladder_walk fd_ladder_walk
  bd_ladder_walk : Binds K fd_ladder_walk ["self", "last"] []
  f_poured : Addr
  fd_poured : FuncData
  F_poured : Fun K "poured" "poured" s_poured f_poured fd_poured
  bd_poured : Binds K fd_poured ["ladder", "other"] []
  g_poured : mg "poured" = some (.ref f_poured)
  f_l_whole : Addr
  fd_l_whole : FuncData
  F_l_whole : Fun K "_law_whole" "_law_whole" s_l_whole f_l_whole fd_l_whole
  bd_l_whole : Binds K fd_l_whole ["_law_found"] []
  g_l_whole : mg "_law_whole" = some (.ref f_l_whole)
  f_l_cell_at : Addr
  fd_l_cell_at : FuncData
  F_l_cell_at : Fun K "_law_cell_at" "_law_cell_at" s_l_cell_at f_l_cell_at fd_l_cell_at
  bd_l_cell_at : Binds K fd_l_cell_at ["_law_script", "_law_k"] []
  g_l_cell_at : mg "_law_cell_at" = some (.ref f_l_cell_at)
  f_l_refused_by_any : Addr
  fd_l_refused_by_any : FuncData
  F_l_refused_by_any : Fun K "_law_refused_by_any" "_law_refused_by_any" s_l_refused_by_any f_l_refused_by_any fd_l_refused_by_any
  bd_l_refused_by_any : Binds K fd_l_refused_by_any ["_law_width", "_law_high"] []
  g_l_refused_by_any : mg "_law_refused_by_any" = some (.ref f_l_refused_by_any)
  f_l_refused : Addr
  fd_l_refused : FuncData
  F_l_refused : Fun K "_law_refused" "_law_refused" s_l_refused f_l_refused fd_l_refused
  bd_l_refused : Binds K fd_l_refused ["_law_width", "_law_high"] []
  g_l_refused : mg "_law_refused" = some (.ref f_l_refused)
  f_l_asked : Addr
  fd_l_asked : FuncData
  F_l_asked : Fun K "_law_asked" "_law_asked" s_l_asked f_l_asked fd_l_asked
  bd_l_asked : Binds K fd_l_asked ["_law_way", "_law_ladder", "_law_far"] []
  g_l_asked : mg "_law_asked" = some (.ref f_l_asked)
  f_l_kinds : Addr
  fd_l_kinds : FuncData
  F_l_kinds : Fun K "_law_kinds" "_law_kinds" s_l_kinds f_l_kinds fd_l_kinds
  bd_l_kinds : Binds K fd_l_kinds ["_law_way", "_law_ladder", "_law_far"] []
  g_l_kinds : mg "_law_kinds" = some (.ref f_l_kinds)
  f_l_no_place : Addr
  fd_l_no_place : FuncData
  F_l_no_place : Fun K "_law_no_place" "_law_no_place" s_l_no_place f_l_no_place fd_l_no_place
  bd_l_no_place : Binds K fd_l_no_place ["_law_ladder", "_law_place"] []
  g_l_no_place : mg "_law_no_place" = some (.ref f_l_no_place)
  f_l_no_level : Addr
  fd_l_no_level : FuncData
  F_l_no_level : Fun K "_law_no_level" "_law_no_level" s_l_no_level f_l_no_level fd_l_no_level
  bd_l_no_level : Binds K fd_l_no_level ["_law_ladder", "_law_level"] []
  g_l_no_level : mg "_law_no_level" = some (.ref f_l_no_level)
  f_l_empty : Addr
  fd_l_empty : FuncData
  F_l_empty : Fun K "_law_empty" "_law_empty" s_l_empty f_l_empty fd_l_empty
  bd_l_empty : Binds K fd_l_empty ["_law_ladder", "_law_number", "_law_place"] []
  g_l_empty : mg "_law_empty" = some (.ref f_l_empty)
  b_ValueError : mg "ValueError" = none
  b_bool : mg "bool" = none
  b_enumerate : mg "enumerate" = none
  b_int : mg "int" = none
  b_isinstance : mg "isinstance" = none
  b_len : mg "len" = none
  b_list : mg "list" = none
  b_range : mg "range" = none
  c_Ladder : Addr
  x_Ladder : mg "Ladder" = some (.ref c_Ladder)
  cl_Ladder : Cls K c_Ladder
  mk_Ladder : Mk K c_Ladder f_ladder_init
  m_ladder_put : Meth K c_Ladder "put" f_ladder_put
  m_ladder_take : Meth K c_Ladder "take" f_ladder_take
  m_ladder_has : Meth K c_Ladder "has" f_ladder_has
  m_ladder_row : Meth K c_Ladder "row" f_ladder_row
  m_ladder_level : Meth K c_Ladder "level" f_ladder_level
  m_ladder_ahead : Meth K c_Ladder "ahead" f_ladder_ahead
  m_ladder_trail : Meth K c_Ladder "trail" f_ladder_trail
  m_ladder_below : Meth K c_Ladder "below" f_ladder_below
  m_ladder_above : Meth K c_Ladder "above" f_ladder_above
  m_ladder_place : Meth K c_Ladder "place" f_ladder_place
  m_ladder_at : Meth K c_Ladder "at" f_ladder_at
  m_ladder_way : Meth K c_Ladder "way" f_ladder_way
  m_ladder_stretch : Meth K c_Ladder "stretch" f_ladder_stretch
  m_ladder_counted : Meth K c_Ladder "counted" f_ladder_counted
  m_ladder_check_number : Meth K c_Ladder "_check_number" f_ladder_check_number
  m_ladder_check_end : Meth K c_Ladder "_check_end" f_ladder_check_end
  m_ladder_check_level : Meth K c_Ladder "_check_level" f_ladder_check_level
  m_ladder_check_place : Meth K c_Ladder "_check_place" f_ladder_check_place
  m_ladder_spot : Meth K c_Ladder "_spot" f_ladder_spot
  m_ladder_at_or_none : Meth K c_Ladder "_at_or_none" f_ladder_at_or_none
  m_ladder_before : Meth K c_Ladder "_before" f_ladder_before
  m_ladder_begin : Meth K c_Ladder "_begin" f_ladder_begin
  m_ladder_reach : Meth K c_Ladder "_reach" f_ladder_reach
  m_ladder_heirs : Meth K c_Ladder "_heirs" f_ladder_heirs
  m_ladder_walk : Meth K c_Ladder "_walk" f_ladder_walk
  n_Ladder_width : NoAttr K c_Ladder "width"
  n_Ladder_high : NoAttr K c_Ladder "high"
  n_Ladder_limit : NoAttr K c_Ladder "limit"
  n_Ladder_many : NoAttr K c_Ladder "many"
  n_Ladder__row : NoAttr K c_Ladder "_row"
  c_LadderError : Addr
  x_LadderError : mg "LadderError" = some (.ref c_LadderError)
  c_BadSize : Addr
  x_BadSize : mg "BadSize" = some (.ref c_BadSize)
  c_OutOfRange : Addr
  x_OutOfRange : mg "OutOfRange" = some (.ref c_OutOfRange)
  c_Present : Addr
  x_Present : mg "Present" = some (.ref c_Present)
  c_Missing : Addr
  x_Missing : mg "Missing" = some (.ref c_Missing)
  c_NoLevel : Addr
  x_NoLevel : mg "NoLevel" = some (.ref c_NoLevel)
  c_NoPlace : Addr
  x_NoPlace : mg "NoPlace" = some (.ref c_NoPlace)
  c_OtherSize : Addr
  x_OtherSize : mg "OtherSize" = some (.ref c_OtherSize)
  xp_BadSize : PySem.W.excIn K c_BadSize [.type "ValueError", .type "Exception", .type "BaseException", .type "object"] "ValueError.__new__" = true
  kp_BadSize : PySem.W.keepIn K (.ref c_BadSize) = true
  bp_BadSize : PySem.W.subIn K (.ref c_BadSize) (.type "BaseException") = some true
  tp_BadSize : PySem.W.typeIn K (.ref c_BadSize) = some (.type "type")
  xp_OutOfRange : PySem.W.excIn K c_OutOfRange [.type "ValueError", .type "Exception", .type "BaseException", .type "object"] "ValueError.__new__" = true
  kp_OutOfRange : PySem.W.keepIn K (.ref c_OutOfRange) = true
  bp_OutOfRange : PySem.W.subIn K (.ref c_OutOfRange) (.type "BaseException") = some true
  tp_OutOfRange : PySem.W.typeIn K (.ref c_OutOfRange) = some (.type "type")
  xp_Present : PySem.W.excIn K c_Present [.type "ValueError", .type "Exception", .type "BaseException", .type "object"] "ValueError.__new__" = true
  kp_Present : PySem.W.keepIn K (.ref c_Present) = true
  bp_Present : PySem.W.subIn K (.ref c_Present) (.type "BaseException") = some true
  tp_Present : PySem.W.typeIn K (.ref c_Present) = some (.type "type")
  xp_Missing : PySem.W.excIn K c_Missing [.type "ValueError", .type "Exception", .type "BaseException", .type "object"] "ValueError.__new__" = true
  kp_Missing : PySem.W.keepIn K (.ref c_Missing) = true
  bp_Missing : PySem.W.subIn K (.ref c_Missing) (.type "BaseException") = some true
  tp_Missing : PySem.W.typeIn K (.ref c_Missing) = some (.type "type")
  xp_NoLevel : PySem.W.excIn K c_NoLevel [.type "ValueError", .type "Exception", .type "BaseException", .type "object"] "ValueError.__new__" = true
  kp_NoLevel : PySem.W.keepIn K (.ref c_NoLevel) = true
  bp_NoLevel : PySem.W.subIn K (.ref c_NoLevel) (.type "BaseException") = some true
  tp_NoLevel : PySem.W.typeIn K (.ref c_NoLevel) = some (.type "type")
  xp_NoPlace : PySem.W.excIn K c_NoPlace [.type "ValueError", .type "Exception", .type "BaseException", .type "object"] "ValueError.__new__" = true
  kp_NoPlace : PySem.W.keepIn K (.ref c_NoPlace) = true
  bp_NoPlace : PySem.W.subIn K (.ref c_NoPlace) (.type "BaseException") = some true
  tp_NoPlace : PySem.W.typeIn K (.ref c_NoPlace) = some (.type "type")
  xp_OtherSize : PySem.W.excIn K c_OtherSize [.type "ValueError", .type "Exception", .type "BaseException", .type "object"] "ValueError.__new__" = true
  kp_OtherSize : PySem.W.keepIn K (.ref c_OtherSize) = true
  bp_OtherSize : PySem.W.subIn K (.ref c_OtherSize) (.type "BaseException") = some true
  tp_OtherSize : PySem.W.typeIn K (.ref c_OtherSize) = some (.type "type")
  exm_BadSize_BadSize : PySem.W.exmOne K (.ref c_BadSize) (.ref c_BadSize) = some true
  exm_BadSize_LadderError : PySem.W.exmOne K (.ref c_BadSize) (.ref c_LadderError) = some true
  exm_BadSize_NoPlace : PySem.W.exmOne K (.ref c_BadSize) (.ref c_NoPlace) = some false
  exm_BadSize_NoLevel : PySem.W.exmOne K (.ref c_BadSize) (.ref c_NoLevel) = some false
  kit_BadSize_ValueError : PySem.W.kitOne K (.ref c_BadSize) (.type "ValueError") = some true
  kit_BadSize_Missing : PySem.W.kitOne K (.ref c_BadSize) (.ref c_Missing) = some false
  kit_BadSize_Present : PySem.W.kitOne K (.ref c_BadSize) (.ref c_Present) = some false
  kit_BadSize_OutOfRange : PySem.W.kitOne K (.ref c_BadSize) (.ref c_OutOfRange) = some false
  kit_BadSize_BadSize : PySem.W.kitOne K (.ref c_BadSize) (.ref c_BadSize) = some true
  kit_BadSize_OtherSize : PySem.W.kitOne K (.ref c_BadSize) (.ref c_OtherSize) = some false
  kit_BadSize_NoPlace : PySem.W.kitOne K (.ref c_BadSize) (.ref c_NoPlace) = some false
  kit_BadSize_NoLevel : PySem.W.kitOne K (.ref c_BadSize) (.ref c_NoLevel) = some false
  ec_BadSize : ExcC K c_BadSize
  exm_OutOfRange_BadSize : PySem.W.exmOne K (.ref c_OutOfRange) (.ref c_BadSize) = some false
  exm_OutOfRange_LadderError : PySem.W.exmOne K (.ref c_OutOfRange) (.ref c_LadderError) = some true
  exm_OutOfRange_NoPlace : PySem.W.exmOne K (.ref c_OutOfRange) (.ref c_NoPlace) = some false
  exm_OutOfRange_NoLevel : PySem.W.exmOne K (.ref c_OutOfRange) (.ref c_NoLevel) = some false
  kit_OutOfRange_ValueError : PySem.W.kitOne K (.ref c_OutOfRange) (.type "ValueError") = some true
  kit_OutOfRange_Missing : PySem.W.kitOne K (.ref c_OutOfRange) (.ref c_Missing) = some false
  kit_OutOfRange_Present : PySem.W.kitOne K (.ref c_OutOfRange) (.ref c_Present) = some false
  kit_OutOfRange_OutOfRange : PySem.W.kitOne K (.ref c_OutOfRange) (.ref c_OutOfRange) = some true
  kit_OutOfRange_BadSize : PySem.W.kitOne K (.ref c_OutOfRange) (.ref c_BadSize) = some false
  kit_OutOfRange_OtherSize : PySem.W.kitOne K (.ref c_OutOfRange) (.ref c_OtherSize) = some false
  kit_OutOfRange_NoPlace : PySem.W.kitOne K (.ref c_OutOfRange) (.ref c_NoPlace) = some false
  kit_OutOfRange_NoLevel : PySem.W.kitOne K (.ref c_OutOfRange) (.ref c_NoLevel) = some false
  ec_OutOfRange : ExcC K c_OutOfRange
  exm_Present_BadSize : PySem.W.exmOne K (.ref c_Present) (.ref c_BadSize) = some false
  exm_Present_LadderError : PySem.W.exmOne K (.ref c_Present) (.ref c_LadderError) = some true
  exm_Present_NoPlace : PySem.W.exmOne K (.ref c_Present) (.ref c_NoPlace) = some false
  exm_Present_NoLevel : PySem.W.exmOne K (.ref c_Present) (.ref c_NoLevel) = some false
  kit_Present_ValueError : PySem.W.kitOne K (.ref c_Present) (.type "ValueError") = some true
  kit_Present_Missing : PySem.W.kitOne K (.ref c_Present) (.ref c_Missing) = some false
  kit_Present_Present : PySem.W.kitOne K (.ref c_Present) (.ref c_Present) = some true
  kit_Present_OutOfRange : PySem.W.kitOne K (.ref c_Present) (.ref c_OutOfRange) = some false
  kit_Present_BadSize : PySem.W.kitOne K (.ref c_Present) (.ref c_BadSize) = some false
  kit_Present_OtherSize : PySem.W.kitOne K (.ref c_Present) (.ref c_OtherSize) = some false
  kit_Present_NoPlace : PySem.W.kitOne K (.ref c_Present) (.ref c_NoPlace) = some false
  kit_Present_NoLevel : PySem.W.kitOne K (.ref c_Present) (.ref c_NoLevel) = some false
  ec_Present : ExcC K c_Present
  exm_Missing_BadSize : PySem.W.exmOne K (.ref c_Missing) (.ref c_BadSize) = some false
  exm_Missing_LadderError : PySem.W.exmOne K (.ref c_Missing) (.ref c_LadderError) = some true
  exm_Missing_NoPlace : PySem.W.exmOne K (.ref c_Missing) (.ref c_NoPlace) = some false
  exm_Missing_NoLevel : PySem.W.exmOne K (.ref c_Missing) (.ref c_NoLevel) = some false
  kit_Missing_ValueError : PySem.W.kitOne K (.ref c_Missing) (.type "ValueError") = some true
  kit_Missing_Missing : PySem.W.kitOne K (.ref c_Missing) (.ref c_Missing) = some true
  kit_Missing_Present : PySem.W.kitOne K (.ref c_Missing) (.ref c_Present) = some false
  kit_Missing_OutOfRange : PySem.W.kitOne K (.ref c_Missing) (.ref c_OutOfRange) = some false
  kit_Missing_BadSize : PySem.W.kitOne K (.ref c_Missing) (.ref c_BadSize) = some false
  kit_Missing_OtherSize : PySem.W.kitOne K (.ref c_Missing) (.ref c_OtherSize) = some false
  kit_Missing_NoPlace : PySem.W.kitOne K (.ref c_Missing) (.ref c_NoPlace) = some false
  kit_Missing_NoLevel : PySem.W.kitOne K (.ref c_Missing) (.ref c_NoLevel) = some false
  ec_Missing : ExcC K c_Missing
  exm_NoLevel_BadSize : PySem.W.exmOne K (.ref c_NoLevel) (.ref c_BadSize) = some false
  exm_NoLevel_LadderError : PySem.W.exmOne K (.ref c_NoLevel) (.ref c_LadderError) = some true
  exm_NoLevel_NoPlace : PySem.W.exmOne K (.ref c_NoLevel) (.ref c_NoPlace) = some false
  exm_NoLevel_NoLevel : PySem.W.exmOne K (.ref c_NoLevel) (.ref c_NoLevel) = some true
  kit_NoLevel_ValueError : PySem.W.kitOne K (.ref c_NoLevel) (.type "ValueError") = some true
  kit_NoLevel_Missing : PySem.W.kitOne K (.ref c_NoLevel) (.ref c_Missing) = some false
  kit_NoLevel_Present : PySem.W.kitOne K (.ref c_NoLevel) (.ref c_Present) = some false
  kit_NoLevel_OutOfRange : PySem.W.kitOne K (.ref c_NoLevel) (.ref c_OutOfRange) = some false
  kit_NoLevel_BadSize : PySem.W.kitOne K (.ref c_NoLevel) (.ref c_BadSize) = some false
  kit_NoLevel_OtherSize : PySem.W.kitOne K (.ref c_NoLevel) (.ref c_OtherSize) = some false
  kit_NoLevel_NoPlace : PySem.W.kitOne K (.ref c_NoLevel) (.ref c_NoPlace) = some false
  kit_NoLevel_NoLevel : PySem.W.kitOne K (.ref c_NoLevel) (.ref c_NoLevel) = some true
  ec_NoLevel : ExcC K c_NoLevel
  exm_NoPlace_BadSize : PySem.W.exmOne K (.ref c_NoPlace) (.ref c_BadSize) = some false
  exm_NoPlace_LadderError : PySem.W.exmOne K (.ref c_NoPlace) (.ref c_LadderError) = some true
  exm_NoPlace_NoPlace : PySem.W.exmOne K (.ref c_NoPlace) (.ref c_NoPlace) = some true
  exm_NoPlace_NoLevel : PySem.W.exmOne K (.ref c_NoPlace) (.ref c_NoLevel) = some false
  kit_NoPlace_ValueError : PySem.W.kitOne K (.ref c_NoPlace) (.type "ValueError") = some true
  kit_NoPlace_Missing : PySem.W.kitOne K (.ref c_NoPlace) (.ref c_Missing) = some false
  kit_NoPlace_Present : PySem.W.kitOne K (.ref c_NoPlace) (.ref c_Present) = some false
  kit_NoPlace_OutOfRange : PySem.W.kitOne K (.ref c_NoPlace) (.ref c_OutOfRange) = some false
  kit_NoPlace_BadSize : PySem.W.kitOne K (.ref c_NoPlace) (.ref c_BadSize) = some false
  kit_NoPlace_OtherSize : PySem.W.kitOne K (.ref c_NoPlace) (.ref c_OtherSize) = some false
  kit_NoPlace_NoPlace : PySem.W.kitOne K (.ref c_NoPlace) (.ref c_NoPlace) = some true
  kit_NoPlace_NoLevel : PySem.W.kitOne K (.ref c_NoPlace) (.ref c_NoLevel) = some false
  ec_NoPlace : ExcC K c_NoPlace
  exm_OtherSize_BadSize : PySem.W.exmOne K (.ref c_OtherSize) (.ref c_BadSize) = some false
  exm_OtherSize_LadderError : PySem.W.exmOne K (.ref c_OtherSize) (.ref c_LadderError) = some true
  exm_OtherSize_NoPlace : PySem.W.exmOne K (.ref c_OtherSize) (.ref c_NoPlace) = some false
  exm_OtherSize_NoLevel : PySem.W.exmOne K (.ref c_OtherSize) (.ref c_NoLevel) = some false
  kit_OtherSize_ValueError : PySem.W.kitOne K (.ref c_OtherSize) (.type "ValueError") = some true
  kit_OtherSize_Missing : PySem.W.kitOne K (.ref c_OtherSize) (.ref c_Missing) = some false
  kit_OtherSize_Present : PySem.W.kitOne K (.ref c_OtherSize) (.ref c_Present) = some false
  kit_OtherSize_OutOfRange : PySem.W.kitOne K (.ref c_OtherSize) (.ref c_OutOfRange) = some false
  kit_OtherSize_BadSize : PySem.W.kitOne K (.ref c_OtherSize) (.ref c_BadSize) = some false
  kit_OtherSize_OtherSize : PySem.W.kitOne K (.ref c_OtherSize) (.ref c_OtherSize) = some true
  kit_OtherSize_NoPlace : PySem.W.kitOne K (.ref c_OtherSize) (.ref c_NoPlace) = some false
  kit_OtherSize_NoLevel : PySem.W.kitOne K (.ref c_OtherSize) (.ref c_NoLevel) = some false
  ec_OtherSize : ExcC K c_OtherSize
section
variable {P : Program} {w : World} {K : PySem.W.Frag} {mg : Str → Option Value} {base : Heap}
def sp_ladder_init (T : Txt K mg) (R : Rep K T.c_Ladder) : Sp := fun vs H Q E => ∃ (H0 : Hp) (p dx : Addr) (w h : Int), vs = [.ref p, .int w, .int h] ∧ H = upd (upd H0 dx (.own p)) p (.ins T.c_Ladder dx []) ∧ H0 p = none ∧ H0 dx = none ∧ dx ≠ p ∧
  ((w < 2 ∨ 9 < w ∨ h < 1 ∨ 12 < h) → ∀ H', Same H0 H' → E (.ref T.c_BadSize) none H') ∧
  (∀ l : Nat, h = (l : Int) → 2 ≤ w → w ≤ 9 → 1 ≤ l → l ≤ 12 → ∀ H' F, R.Lad H' p w l [] F → Same H0 H' → (∀ b, F b → H0 b = none) → Q .non H')
def sp_ladder_put (T : Txt K mg) (R : Rep K T.c_Ladder) : Sp := fun vs H Q E => ∃ (p : Addr) (w : Int) (h : Nat) (xs : List Int) (F : Addr → Prop) (G : Hp) (n : Int), vs = [.ref p, .int n] ∧ View R G H p w h xs F ∧ xs.length ≤ 150 ∧
  ((n < 0 ∨ w ^ h ≤ n) → ∀ H', Same H H' → E (.ref T.c_OutOfRange) none H') ∧
  (n ∈ xs → ∀ H', Same H H' → E (.ref T.c_Present) none H') ∧
  (0 ≤ n → n < w ^ h → n ∉ xs → ∀ H' G' F' r vs, View R G' H' p w h (insR n xs) F' → Same G G' → G r = none → G' r = some (.lst vs) → DhAll G' vs (chPut w h xs n) → Q (.ref r) H')
def sp_ladder_take (T : Txt K mg) (R : Rep K T.c_Ladder) : Sp := fun vs H Q E => ∃ (p : Addr) (w : Int) (h : Nat) (xs : List Int) (F : Addr → Prop) (G : Hp) (n : Int), vs = [.ref p, .int n] ∧ View R G H p w h xs F ∧ xs.length ≤ 150 ∧
  ((n < 0 ∨ w ^ h ≤ n) → ∀ H', Same H H' → E (.ref T.c_OutOfRange) none H') ∧
  (0 ≤ n → n < w ^ h → n ∉ xs → ∀ H', Same H H' → E (.ref T.c_Missing) none H') ∧
  (n ∈ xs → ∀ H' G' F' r vs, View R G' H' p w h (remR n xs) F' → Same G G' → G r = none → G' r = some (.lst vs) → DhAll G' vs (chTake w h xs n) → Q (.ref r) H')
def sp_ladder_row (T : Txt K mg) (R : Rep K T.c_Ladder) : Sp := fun vs H Q _ => ∃ (p : Addr) (w : Int) (h : Nat) (xs : List Int) (F : Addr → Prop), vs = [.ref p] ∧ R.Lad H p w h xs F ∧ xs.length ≤ 150 ∧ ∀ H' r, Same H H' → H r = none → H' r = some (.lst (xs.map V.int)) → Q (.ref r) H'
def sp_ladder_has (T : Txt K mg) (R : Rep K T.c_Ladder) : Sp := fun vs H Q E => ∃ (p : Addr) (w : Int) (h : Nat) (xs : List Int) (F : Addr → Prop) (n : Int), vs = [.ref p, .int n] ∧ R.Lad H p w h xs F ∧ xs.length ≤ 150 ∧
  ((n < 0 ∨ w ^ h ≤ n) → ∀ H', Same H H' → E (.ref T.c_OutOfRange) none H') ∧ (0 ≤ n → n < w ^ h → ∀ H', Same H H' → Q (.bl (decide (n ∈ xs))) H')
def sp_ladder_level (T : Txt K mg) (R : Rep K T.c_Ladder) : Sp := fun vs H Q E => ∃ (p : Addr) (w : Int) (h : Nat) (xs : List Int) (F : Addr → Prop) (L : Int), vs = [.ref p, .int L] ∧ R.Lad H p w h xs F ∧ xs.length ≤ 150 ∧
  ((L < 0 ∨ (h : Int) < L) → ∀ H', Same H H' → E (.ref T.c_NoLevel) none H') ∧
  (∀ l : Nat, L = (l : Int) → l ≤ h → ∀ H' r, Same H H' → H r = none → H' r = some (.lst ((levL w l xs).map V.int)) → Q (.ref r) H')
def sp_ladder_ahead (T : Txt K mg) (R : Rep K T.c_Ladder) : Sp := fun vs H Q E => ∃ (p : Addr) (w : Int) (h : Nat) (xs : List Int) (F : Addr → Prop) (L n : Int), vs = [.ref p, .int L, .int n] ∧ R.Lad H p w h xs F ∧ xs.length ≤ 150 ∧
  ((L < 0 ∨ (h : Int) < L) → ∀ H', Same H H' → E (.ref T.c_NoLevel) none H') ∧
  (∀ l : Nat, L = (l : Int) → l ≤ h → n ∉ levL w l xs → ∀ H', Same H H' → E (.ref T.c_Missing) none H') ∧
  (∀ l : Nat, L = (l : Int) → l ≤ h → n ∈ levL w l xs → ∀ H' t, Same H H' → H t = none → H' t = some (.tup [oV (nextO w l xs n), .int (gapN w l xs n : Int)]) → Q (.ref t) H')
/-- a new list of data is handed out, which the law keeps -/
def Gives {K : PySem.W.Frag} {C : Addr} (R : Rep K C) (G H : Hp) (p : Addr) (w : Int) (h : Nat) (xs : List Int) (F : Addr → Prop) (ds : List PyData) (Q : VK) : Prop :=
  ∀ H' G' r vs, View R G' H' p w h xs F → Same G G' → Same H H' → H r = none → G r = none → G' r = some (.lst vs) → DhAll G' vs ds → Q (.ref r) H'
def sp_ladder_trail (T : Txt K mg) (R : Rep K T.c_Ladder) : Sp := fun vs H Q E => ∃ (p : Addr) (w : Int) (h : Nat) (xs : List Int) (F : Addr → Prop) (G : Hp) (n : Int), vs = [.ref p, .int n] ∧ View R G H p w h xs F ∧ xs.length ≤ 150 ∧
  ((n < 0 ∨ w ^ h ≤ n) → ∀ H', Same H H' → E (.ref T.c_OutOfRange) none H') ∧ (0 ≤ n → n < w ^ h → Gives R G H p w h xs F ((trailR w h xs n).map stD) Q)
def sp_ladder_below (T : Txt K mg) (R : Rep K T.c_Ladder) : Sp := fun vs H Q E => ∃ (p : Addr) (w : Int) (h : Nat) (xs : List Int) (F : Addr → Prop) (n : Int), vs = [.ref p, .int n] ∧ R.Lad H p w h xs F ∧ xs.length ≤ 150 ∧
  ((n < 0 ∨ w ^ h ≤ n) → ∀ H', Same H H' → E (.ref T.c_OutOfRange) none H') ∧ (0 ≤ n → n < w ^ h → ∀ H', Same H H' → Q (oV (belowEq xs n)) H')
def sp_ladder_above (T : Txt K mg) (R : Rep K T.c_Ladder) : Sp := fun vs H Q E => ∃ (p : Addr) (w : Int) (h : Nat) (xs : List Int) (F : Addr → Prop) (n : Int), vs = [.ref p, .int n] ∧ R.Lad H p w h xs F ∧ xs.length ≤ 150 ∧
  ((n < 0 ∨ w ^ h ≤ n) → ∀ H', Same H H' → E (.ref T.c_OutOfRange) none H') ∧ (0 ≤ n → n < w ^ h → ∀ H', Same H H' → Q (oV (aboveEq xs n)) H')
def sp_ladder_place (T : Txt K mg) (R : Rep K T.c_Ladder) : Sp := fun vs H Q E => ∃ (p : Addr) (w : Int) (h : Nat) (xs : List Int) (F : Addr → Prop) (n : Int), vs = [.ref p, .int n] ∧ R.Lad H p w h xs F ∧ xs.length ≤ 150 ∧
  ((n < 0 ∨ w ^ h < n) → ∀ H', Same H H' → E (.ref T.c_OutOfRange) none H') ∧ (0 ≤ n → n ≤ w ^ h → ∀ H', Same H H' → Q (.int (placeN xs n : Int)) H')
def sp_ladder_at (T : Txt K mg) (R : Rep K T.c_Ladder) : Sp := fun vs H Q E => ∃ (p : Addr) (w : Int) (h : Nat) (xs : List Int) (F : Addr → Prop) (k : Int), vs = [.ref p, .int k] ∧ R.Lad H p w h xs F ∧ xs.length ≤ 150 ∧
  ((k < 0 ∨ (xs.length : Int) ≤ k) → ∀ H', Same H H' → E (.ref T.c_NoPlace) none H') ∧ (∀ j : Nat, k = (j : Int) → j < xs.length → ∀ H', Same H H' → Q (.int (xs.getD j 0)) H')
def sp_ladder_way (T : Txt K mg) (R : Rep K T.c_Ladder) : Sp := fun vs H Q E => ∃ (p : Addr) (w : Int) (h : Nat) (xs : List Int) (F : Addr → Prop) (G : Hp) (k : Int), vs = [.ref p, .int k] ∧ View R G H p w h xs F ∧ xs.length ≤ 150 ∧
  ((k < 0 ∨ (xs.length : Int) ≤ k) → ∀ H', Same H H' → E (.ref T.c_NoPlace) none H') ∧ (∀ j : Nat, k = (j : Int) → j < xs.length → Gives R G H p w h xs F ((trailR w h xs (xs.getD j 0)).map stD) Q)
/-- the kept numbers from lo on that are below hi -/
def stretchL (xs : List Int) (lo hi : Int) : List Int := xs.filter fun x => decide (lo ≤ x) && decide (x < hi)
def sp_ladder_stretch (T : Txt K mg) (R : Rep K T.c_Ladder) : Sp := fun vs H Q E => ∃ (p : Addr) (w : Int) (h : Nat) (xs : List Int) (F : Addr → Prop) (lo hi : Int), vs = [.ref p, .int lo, .int hi] ∧ R.Lad H p w h xs F ∧ xs.length ≤ 150 ∧
  ((lo < 0 ∨ w ^ h < lo ∨ hi < 0 ∨ w ^ h < hi) → ∀ H', Same H H' → E (.ref T.c_OutOfRange) none H') ∧
  (0 ≤ lo → lo ≤ w ^ h → 0 ≤ hi → hi ≤ w ^ h → ∀ H' r, Same H H' → H r = none → H' r = some (.lst ((stretchL xs lo hi).map V.int)) → Q (.ref r) H')
def sp_ladder_counted (T : Txt K mg) (R : Rep K T.c_Ladder) : Sp := fun vs H Q E => ∃ (p : Addr) (w : Int) (h : Nat) (xs : List Int) (F : Addr → Prop) (lo hi : Int), vs = [.ref p, .int lo, .int hi] ∧ R.Lad H p w h xs F ∧ xs.length ≤ 150 ∧
  ((lo < 0 ∨ w ^ h < lo ∨ hi < 0 ∨ w ^ h < hi) → ∀ H', Same H H' → E (.ref T.c_OutOfRange) none H') ∧
  (0 ≤ lo → lo ≤ w ^ h → 0 ≤ hi → hi ≤ w ^ h → ∀ H', Same H H' → Q (.int ((stretchL xs lo hi).length : Int)) H')
def sp_poured (T : Txt K mg) (R : Rep K T.c_Ladder) : Sp := fun vs H Q E => ∃ (p q : Addr) (w w2 : Int) (h h2 : Nat) (xs ys : List Int) (F F2 : Addr → Prop), vs = [.ref p, .ref q] ∧ R.Lad H p w h xs F ∧ R.Lad H q w2 h2 ys F2 ∧ xs.length + ys.length ≤ 150 ∧
  ((w ≠ w2 ∨ h ≠ h2) → ∀ H', Same H H' → E (.ref T.c_OtherSize) none H') ∧
  (w = w2 → h = h2 → (∃ y ∈ ys, y ∈ xs) → ∀ H', Same H H' → E (.ref T.c_Present) none H') ∧
  ((∀ y ∈ ys, y ∉ xs) → ys = [] ∨ ∀ b, F b → ¬ F2 b) ∧
  (w = w2 → h = h2 → (∀ y ∈ ys, y ∉ xs) → ∀ H' F', R.Lad H' p w h (pourL ys xs) F' → Frame F F' H H' → Q .non H')
structure Prog (P : Program) (w : World) (K : PySem.W.Frag) (mg : Str → Option Value) (base : Heap) (T : Txt K mg) (R : Rep K T.c_Ladder) : Prop where
  init : FnOk P w K mg base (L2.CX P w) 20 T.f_ladder_init T.fd_ladder_init ["self", "width", "high"] (sp_ladder_init T R)
  put : FnOk P w K mg base (L2.CX P w) 20 T.f_ladder_put T.fd_ladder_put ["self", "number"] (sp_ladder_put T R)
  take : FnOk P w K mg base (L2.CX P w) 20 T.f_ladder_take T.fd_ladder_take ["self", "number"] (sp_ladder_take T R)
  row : FnOk P w K mg base CX0 20 T.f_ladder_row T.fd_ladder_row ["self"] (sp_ladder_row T R)
  has : FnOk P w K mg base (L2.CX P w) 20 T.f_ladder_has T.fd_ladder_has ["self", "number"] (sp_ladder_has T R)
  level : FnOk P w K mg base (L2.CX P w) 20 T.f_ladder_level T.fd_ladder_level ["self", "level"] (sp_ladder_level T R)
  ahead : FnOk P w K mg base (L2.CX P w) 20 T.f_ladder_ahead T.fd_ladder_ahead ["self", "level", "number"] (sp_ladder_ahead T R)
  trail : FnOk P w K mg base (L2.CX P w) 20 T.f_ladder_trail T.fd_ladder_trail ["self", "number"] (sp_ladder_trail T R)
  below : FnOk P w K mg base (L2.CX P w) 20 T.f_ladder_below T.fd_ladder_below ["self", "number"] (sp_ladder_below T R)
  above : FnOk P w K mg base (L2.CX P w) 20 T.f_ladder_above T.fd_ladder_above ["self", "number"] (sp_ladder_above T R)
  place : FnOk P w K mg base (L2.CX P w) 20 T.f_ladder_place T.fd_ladder_place ["self", "number"] (sp_ladder_place T R)
  at_ : FnOk P w K mg base (L2.CX P w) 20 T.f_ladder_at T.fd_ladder_at ["self", "place"] (sp_ladder_at T R)
  way : FnOk P w K mg base (L2.CX P w) 20 T.f_ladder_way T.fd_ladder_way ["self", "place"] (sp_ladder_way T R)
  stretch : FnOk P w K mg base (L2.CX P w) 20 T.f_ladder_stretch T.fd_ladder_stretch ["self", "low", "high"] (sp_ladder_stretch T R)
  counted : FnOk P w K mg base (L2.CX P w) 20 T.f_ladder_counted T.fd_ladder_counted ["self", "low", "high"] (sp_ladder_counted T R)
  poured : FnOk P w K mg base (L2.CX P w) 20 T.f_poured T.fd_poured ["ladder", "other"] (sp_poured T R)
/-! ### the promises of the law's own helpers -/
def sp_l_whole (T : Txt K mg) (_ : Rep K T.c_Ladder) : Sp := fun vs H Q _ => ∃ (n : Int), vs = [.int n] ∧ Q (.bl true) H
def sp_l_cell_at (T : Txt K mg) (_ : Rep K T.c_Ladder) : Sp := spCell K
def sp_l_number (T : Txt K mg) (_ : Rep K T.c_Ladder) : Sp := fun vs H Q _ => ∃ (c lim : Int), vs = [.int c, .int lim] ∧ 1 ≤ lim ∧ Q (.int (lawNum c lim)) H
def sp_law (K : PySem.W.Frag) : Sp := fun vs H Q _ => ∃ (a : Addr) (ns : List Int), vs = [.ref a] ∧ SqL K H a (ns.map V.int) ∧ ns.length ≤ 63 ∧ ∀ H', Q (.bl true) H'
/-- which refusal is asked for -/
def errOf (T : Txt K mg) (k : Nat) : Addr := match k with
  | 0 => T.c_BadSize
  | 1 => T.c_OutOfRange
  | 2 => T.c_Present
  | 3 => T.c_Missing
  | 4 => T.c_NoLevel
  | 5 => T.c_NoPlace
  | _ => T.c_OtherSize
def sp_l_refused (T : Txt K mg) (_ : Rep K T.c_Ladder) : Sp := fun vs H Q _ => ∃ (w h : Int), vs = [.int w, .int h] ∧ (w < 2 ∨ 9 < w ∨ h < 1 ∨ 12 < h) ∧ ∀ H', Same H H' → Q (.bl true) H'
def sp_l_refused_by_any (T : Txt K mg) (_ : Rep K T.c_Ladder) : Sp := fun vs H Q _ => ∃ (w h : Int), vs = [.int w, .int h] ∧ (w < 2 ∨ 9 < w ∨ h < 1 ∨ 12 < h) ∧ ∀ H', Same H H' → Q (.bl true) H'
def sp_l_asked (T : Txt K mg) (R : Rep K T.c_Ladder) : Sp := fun vs H Q E => ∃ (k : Nat) (p : Addr) (w : Int) (h : Nat) (F : Addr → Prop) (far : Int), vs = [.int (k : Int), .ref p, .int far] ∧ R.Lad H p w h [0] F ∧ k < 7 ∧ 0 ≤ far ∧ ∀ H', E (.ref (errOf T k)) none H'
def sp_l_kinds (T : Txt K mg) (R : Rep K T.c_Ladder) : Sp := fun vs H Q _ => ∃ (k : Nat) (p : Addr) (w : Int) (h : Nat) (F : Addr → Prop) (far : Int), vs = [.int (k : Int), .ref p, .int far] ∧ R.Lad H p w h [0] F ∧ k < 7 ∧ 0 ≤ far ∧
  ∀ H' r, H' r = some (.lst ((List.range 7).map fun j => V.bl (decide (j = k)))) → Q (.ref r) H'
def sp_l_no_place (T : Txt K mg) (R : Rep K T.c_Ladder) : Sp := fun vs H Q _ => ∃ (p : Addr) (w : Int) (h : Nat) (xs : List Int) (F : Addr → Prop) (k : Int), vs = [.ref p, .int k] ∧ R.Lad H p w h xs F ∧ xs.length ≤ 150 ∧ (k < 0 ∨ (xs.length : Int) ≤ k) ∧ ∀ H', Same H H' → Q (.bl true) H'
def sp_l_no_level (T : Txt K mg) (R : Rep K T.c_Ladder) : Sp := fun vs H Q _ => ∃ (p : Addr) (w : Int) (h : Nat) (xs : List Int) (F : Addr → Prop) (L : Int), vs = [.ref p, .int L] ∧ R.Lad H p w h xs F ∧ xs.length ≤ 150 ∧ (L < 0 ∨ (h : Int) < L) ∧ ∀ H', Same H H' → Q (.bl true) H'
def sp_l_empty (T : Txt K mg) (R : Rep K T.c_Ladder) : Sp := fun vs H Q _ => ∃ (p : Addr) (w : Int) (h : Nat) (F : Addr → Prop) (n k : Int), vs = [.ref p, .int n, .int k] ∧ R.Lad H p w h [] F ∧ 0 ≤ n ∧ n < w ^ h ∧ ∀ H', Same H H' → Q (.bl true) H'
theorem ok_l_whole (T : Txt K mg) (R : Rep K T.c_Ladder) (PR : Prog P w K mg base T R) : FnOk P w K mg base CX0 1 T.f_l_whole T.fd_l_whole ["_law_found"] (sp_l_whole T R) := by
  refine T.F_l_whole.ok sc_l_whole (fun vs H Q E h => ?_) (fun cdv A outer s H vs Q E hr h => ?_)
  · obtain ⟨n, rfl, _⟩ := h
    rfl
  · obtain ⟨n, rfl, q⟩ := h
    refine ⟨_, (pss_one (ps_ret (pe_and (pe_callB call_isi (by rfl) T.b_isinstance (by decide +kernel) (pa_cons (pv 0) (pa_cons (pe_bltn (v := .ty "int") (by rfl) T.b_int (by decide +kernel) rfl) pa_nil))) (pe_one (pe_not (pe_callB call_isi (by rfl) T.b_isinstance (by decide +kernel) (pa_cons (pv 0) (pa_cons (pe_bltn (v := .ty "bool") (by rfl) T.b_bool (by decide +kernel) rfl) pa_nil)))))))), ?_⟩
    refine ⟨_, rfl, .int n, .ty "int", .type "int", .type "int", true, rfl, .ty _, .base (.int n), kit_ty (by decide +kernel), true, rfl, iteT ?_⟩
    exact ⟨_, rfl, .int n, .ty "bool", .type "int", .type "bool", false, rfl, .ty _, .base (.int n), kit_ty (by decide +kernel), false, rfl, q⟩
theorem ok_l_cell_at (T : Txt K mg) (R : Rep K T.c_Ladder) (PR : Prog P w K mg base T R) : FnOk P w K mg base CX0 1 T.f_l_cell_at T.fd_l_cell_at ["_law_script", "_law_k"] (sp_l_cell_at T R) := by
  refine T.F_l_cell_at.ok sc_l_cell_at (fun vs H Q E h => ?_) (fun cdv A outer s H vs Q E hr h => ?_)
  · obtain ⟨a, ns, j, rfl, _⟩ := h
    rfl
  · obtain ⟨a, ns, j, rfl, hS, q⟩ := h
    refine ⟨_, (pss_cons (ps_if (pt_cmpR op_lt (pv 1) (pe_callB call_len_seq (by rfl) T.b_len PySem.boot_len (pa_cons (pv 0) pa_nil)) (nomark _)) (pss_one (ps_ret (pe_ix ix_list (pv 0) (pv 1) (fun _ _ => rfl)))) pss_nil)
      (pss_one (ps_ret pe_int))), ?_⟩
    refine ⟨_, rfl, _, rfl, a, ns.map V.int, rfl, .inl hS, _, _, rfl, rfl, _, rfl, ite2 (fun e => ?_) (fun e => ?_)⟩
    · have e2 := of_decide_eq_true e
      rw [List.length_map] at e2
      exact ⟨_, rfl, _, rfl, a, _, _, _, rfl, rfl, hS, atI_cell (by omega), q⟩
    · have e2 : ¬ j < ns.length := fun z => e (decide_eq_true (by rw [List.length_map]; omega))
      rw [cell_out e2] at q
      exact q
theorem ok_l_refused (T : Txt K mg) (R : Rep K T.c_Ladder) (PR : Prog P w K mg base T R) : FnOk P w K mg base CX0 22 T.f_l_refused T.fd_l_refused ["_law_width", "_law_high"] (sp_l_refused T R) := by
  have G_ladder_init := PR.init
  refine T.F_l_refused.ok sc_l_refused (fun vs H Q E h => ?_) (fun cdv A outer s H vs Q E hr h => ?_)
  · obtain ⟨wd, hh, rfl, _⟩ := h
    rfl
  · obtain ⟨wd, hh, rfl, bad, q⟩ := h
    refine ⟨_, (pss_cons (ps_try_only rfl rfl ⟨rfl, by decide, .inl T.x_BadSize⟩ takes0 (fun W pn xe tk _ => (pss_one (ps_expr (pe_makeS T.mk_Ladder G_ladder_init hr (by rfl) T.x_Ladder T.bd_ladder_init (fun σ => passAt tk σ) (pa_cons (pv 0) (pa_cons (pv 1) pa_nil)))))) (fun a oe cls dd pn hz hf => (pss_one (ps_ret pe_bl))))
      (pss_one (ps_ret pe_bl))), ?_⟩
    exact ⟨_, rfl, _, rfl, fun p dx np ndx ne => ⟨H, p, dx, wd, hh, rfl, rfl, np, ndx, ne, fun _ H' s => ⟨true, T.exm_BadSize_BadSize, fun _ a na => q H' s, (fun z => nomatch z)⟩, fun l el a1 a2 a3 a4 => absurd bad (by omega)⟩⟩
theorem ok_l_refused_by_any (T : Txt K mg) (R : Rep K T.c_Ladder) (PR : Prog P w K mg base T R) : FnOk P w K mg base CX0 22 T.f_l_refused_by_any T.fd_l_refused_by_any ["_law_width", "_law_high"] (sp_l_refused_by_any T R) := by
  have G_ladder_init := PR.init
  refine T.F_l_refused_by_any.ok sc_l_refused_by_any (fun vs H Q E h => ?_) (fun cdv A outer s H vs Q E hr h => ?_)
  · obtain ⟨wd, hh, rfl, _⟩ := h
    rfl
  · obtain ⟨wd, hh, rfl, bad, q⟩ := h
    refine ⟨_, (pss_cons (ps_try_as (i := 2) rfl rfl sc_l_refused_by_any.nd rfl rfl ⟨rfl, by decide, .inl T.x_LadderError⟩ takes0 (fun W pn xe tk _ => (pss_one (ps_expr (pe_makeS T.mk_Ladder G_ladder_init hr (by rfl) T.x_Ladder T.bd_ladder_init (fun σ => passAt tk σ) (pa_cons (pv 0) (pa_cons (pv 1) pa_nil)))))) (fun a oe cls dd pn hz hf => (pss_one (ps_ret (pe_callB (call_isEx hz hf) (by rfl) T.b_isinstance (by decide +kernel) (pa_cons (pv 2) (pa_cons (pe_bltn (v := .ty "ValueError") (by rfl) T.b_ValueError (by decide +kernel) rfl) pa_nil)))))))
      (pss_one (ps_ret pe_bl))), ?_⟩
    exact ⟨_, rfl, _, rfl, fun p dx np ndx ne => ⟨H, p, dx, wd, hh, rfl, rfl, np, ndx, ne, fun _ H' s => ⟨true, T.exm_BadSize_LadderError, fun _ a na => ⟨_, rfl, T.c_BadSize, .ty "ValueError", .type "ValueError", true, rfl, rfl, T.ec_BadSize, rfl, fun _ r => r, T.kit_BadSize_ValueError, q H' s⟩, (fun z => nomatch z)⟩, fun l el a1 a2 a3 a4 => absurd bad (by omega)⟩⟩
theorem ok_l_no_place (T : Txt K mg) (R : Rep K T.c_Ladder) (PR : Prog P w K mg base T R) : FnOk P w K mg base CX0 21 T.f_l_no_place T.fd_l_no_place ["_law_ladder", "_law_place"] (sp_l_no_place T R) := by
  have G_ladder_at := PR.at_
  have G_ladder_way := PR.way
  refine T.F_l_no_place.ok sc_l_no_place (fun vs H Q E h => ?_) (fun cdv A outer s H vs Q E hr h => ?_)
  · obtain ⟨p, wd, h, xs, F, k, rfl, _⟩ := h
    rfl
  · obtain ⟨p, wd, h, xs, F, k, rfl, hL, hlen, hbad, q⟩ := h
    refine ⟨_, (pss_cons (ps_set (i := 2) sc_l_no_place.nd rfl (.inl rfl) pe_int)
      (pss_cons (ps_try_only rfl rfl ⟨rfl, by decide, .inl T.x_NoPlace⟩ takes0 (fun W pn xe tk _ => (pss_one (ps_expr (pe_methS (pv 0) T.cl_Ladder T.m_ladder_at G_ladder_at hr T.bd_ladder_at (fun σ => passAt tk σ) (pa_cons (pv 1) pa_nil))))) (fun a oe cls dd pn hz hf => (pss_one (ps_set (i := 2) sc_l_no_place.nd rfl (.inl rfl) (pe_op op_add (pv 2) pe_int)))))
      (pss_cons (ps_try_only rfl rfl ⟨rfl, by decide, .inl T.x_NoPlace⟩ takes0 (fun W pn xe tk _ => (pss_one (ps_expr (pe_methS (pv 0) T.cl_Ladder T.m_ladder_way G_ladder_way hr T.bd_ladder_way (fun σ => passAt tk σ) (pa_cons (pv 1) pa_nil))))) (fun a oe cls dd pn hz hf => (pss_one (ps_set (i := 2) sc_l_no_place.nd rfl (.inl rfl) (pe_op op_add (pv 2) pe_int)))))
      (pss_one (ps_ret (pe_cmpR op_eq (pv 2) pe_int (nomark _))))))), ?_⟩
    obtain ⟨dx, fs, hp, _, _, _, _, hm⟩ := R.ins hL
    refine ⟨_, rfl, p, dx, fs, rfl, hp, hm _ (by decide +kernel), _, rfl, p, wd, h, xs, F, k, rfl, hL, hlen, fun _ H1 s1 => ⟨true, T.exm_NoPlace_NoPlace, fun _ a na => ⟨_, rfl, _, _, rfl, rfl, ?_⟩, (fun z => nomatch z)⟩, fun j ej hj => absurd hbad (by omega)⟩
    refine ⟨_, rfl, p, dx, fs, rfl, s1 _ _ hp, hm _ (by decide +kernel), _, rfl, p, wd, h, xs, F, _, k, rfl, View.nothing (R.same hL s1), hlen, fun _ H2 s2 => ⟨true, T.exm_NoPlace_NoPlace, fun _ a na => ⟨_, rfl, _, _, rfl, rfl, ?_⟩, (fun z => nomatch z)⟩, fun j ej hj => absurd hbad (by omega)⟩
    refine ⟨_, rfl, rfl, ?_⟩
    exact q H2 (s1.trans s2)
theorem ok_l_no_level (T : Txt K mg) (R : Rep K T.c_Ladder) (PR : Prog P w K mg base T R) : FnOk P w K mg base CX0 21 T.f_l_no_level T.fd_l_no_level ["_law_ladder", "_law_level"] (sp_l_no_level T R) := by
  have G_ladder_level := PR.level
  have G_ladder_ahead := PR.ahead
  refine T.F_l_no_level.ok sc_l_no_level (fun vs H Q E h => ?_) (fun cdv A outer s H vs Q E hr h => ?_)
  · obtain ⟨p, wd, h, xs, F, L, rfl, _⟩ := h
    rfl
  · obtain ⟨p, wd, h, xs, F, L, rfl, hL, hlen, hbad, q⟩ := h
    refine ⟨_, (pss_cons (ps_set (i := 2) sc_l_no_level.nd rfl (.inl rfl) pe_int)
      (pss_cons (ps_try_only rfl rfl ⟨rfl, by decide, .inl T.x_NoLevel⟩ takes0 (fun W pn xe tk _ => (pss_one (ps_expr (pe_methS (pv 0) T.cl_Ladder T.m_ladder_level G_ladder_level hr T.bd_ladder_level (fun σ => passAt tk σ) (pa_cons (pv 1) pa_nil))))) (fun a oe cls dd pn hz hf => (pss_one (ps_set (i := 2) sc_l_no_level.nd rfl (.inl rfl) (pe_op op_add (pv 2) pe_int)))))
      (pss_cons (ps_try_only rfl rfl ⟨rfl, by decide, .inl T.x_NoLevel⟩ takes0 (fun W pn xe tk _ => (pss_one (ps_expr (pe_methS (pv 0) T.cl_Ladder T.m_ladder_ahead G_ladder_ahead hr T.bd_ladder_ahead (fun σ => passAt tk σ) (pa_cons (pv 1) (pa_cons pe_int pa_nil)))))) (fun a oe cls dd pn hz hf => (pss_one (ps_set (i := 2) sc_l_no_level.nd rfl (.inl rfl) (pe_op op_add (pv 2) pe_int)))))
      (pss_one (ps_ret (pe_cmpR op_eq (pv 2) pe_int (nomark _))))))), ?_⟩
    obtain ⟨dx, fs, hp, _, _, _, _, hm⟩ := R.ins hL
    refine ⟨_, rfl, p, dx, fs, rfl, hp, hm _ (by decide +kernel), _, rfl, p, wd, h, xs, F, L, rfl, hL, hlen, fun _ H1 s1 => ⟨true, T.exm_NoLevel_NoLevel, fun _ a na => ⟨_, rfl, _, _, rfl, rfl, ?_⟩, (fun z => nomatch z)⟩, fun j ej hj => absurd hbad (by omega)⟩
    refine ⟨_, rfl, p, dx, fs, rfl, s1 _ _ hp, hm _ (by decide +kernel), _, rfl, p, wd, h, xs, F, L, 0, rfl, R.same hL s1, hlen, fun _ H2 s2 => ⟨true, T.exm_NoLevel_NoLevel, fun _ a na => ⟨_, rfl, _, _, rfl, rfl, ?_⟩, (fun z => nomatch z)⟩, fun l el hl => absurd hbad (by omega), fun l el hl => absurd hbad (by omega)⟩
    refine ⟨_, rfl, rfl, ?_⟩
    exact q H2 (s1.trans s2)
theorem ok_l_asked (T : Txt K mg) (R : Rep K T.c_Ladder) (PR : Prog P w K mg base T R) : FnOk P w K mg base (L2.CX P w) 23 T.f_l_asked T.fd_l_asked ["_law_way", "_law_ladder", "_law_far"] (sp_l_asked T R) := by
  have G_ladder_init := PR.init
  have G_ladder_put := PR.put
  have G_ladder_take := PR.take
  have G_ladder_level := PR.level
  have G_ladder_at := PR.at_
  have G_poured := PR.poured
  refine T.F_l_asked.okX sc_l_asked (fun vs H Q E h => ?_) (fun cdv A outer s H vs Q E hr h => ?_)
  · obtain ⟨k, p, wd, h, F, far, rfl, _⟩ := h
    rfl
  · obtain ⟨k, p, wd, h, F, far, rfl, hL, hk, hfar, q⟩ := h
    refine ⟨_, (pss_one (ps_if (pt_cmpR op_eq (pv 0) pe_int (nomark _)) (pss_one (ps_expr (pe_make T.mk_Ladder G_ladder_init (hr.mono (by decide)) (by rfl) T.x_Ladder T.bd_ladder_init .nil (passes_call (takes_of rfl rfl rfl rfl) (fun _ _ _ _ h => h)) (pa_cons (pe_fld (pv 1) rfl) (pa_cons (pe_op op_add pe_int (pv 2)) pa_nil))))) (pss_one (ps_if (pt_cmpR op_eq (pv 0) pe_int (nomark _)) (pss_one (ps_expr (pe_meth (pv 1) T.cl_Ladder T.m_ladder_put G_ladder_put (hr.mono (by decide)) T.bd_ladder_put .nil (passes_call (takes_of rfl rfl rfl rfl) (fun _ _ _ _ h => h)) (pa_cons (pe_op op_add (pe_fld (pv 1) rfl) (pv 2)) pa_nil)))) (pss_one (ps_if (pt_cmpR op_eq (pv 0) pe_int (nomark _)) (pss_one (ps_expr (pe_meth (pv 1) T.cl_Ladder T.m_ladder_put G_ladder_put (hr.mono (by decide)) T.bd_ladder_put .nil (passes_call (takes_of rfl rfl rfl rfl) (fun _ _ _ _ h => h)) (pa_cons pe_int pa_nil)))) (pss_one (ps_if (pt_cmpR op_eq (pv 0) pe_int (nomark _)) (pss_one (ps_expr (pe_meth (pv 1) T.cl_Ladder T.m_ladder_take G_ladder_take (hr.mono (by decide)) T.bd_ladder_take .nil (passes_call (takes_of rfl rfl rfl rfl) (fun _ _ _ _ h => h)) (pa_cons pe_int pa_nil)))) (pss_one (ps_if (pt_cmpR op_eq (pv 0) pe_int (nomark _)) (pss_one (ps_expr (pe_meth (pv 1) T.cl_Ladder T.m_ladder_level G_ladder_level (hr.mono (by decide)) T.bd_ladder_level .nil (passes_call (takes_of rfl rfl rfl rfl) (fun _ _ _ _ h => h)) (pa_cons (pe_op op_add (pe_op op_add (pe_fld (pv 1) rfl) pe_int) (pv 2)) pa_nil)))) (pss_one (ps_if (pt_cmpR op_eq (pv 0) pe_int (nomark _)) (pss_one (ps_expr (pe_meth (pv 1) T.cl_Ladder T.m_ladder_at G_ladder_at (hr.mono (by decide)) T.bd_ladder_at .nil (passes_call (takes_of rfl rfl rfl rfl) (fun _ _ _ _ h => h)) (pa_cons (pe_op op_add pe_int (pv 2)) pa_nil)))) (pss_one (ps_expr (pe_call G_poured (hr.mono (by decide)) (by rfl) T.g_poured T.F_poured.kp T.bd_poured .nil (passes_call (takes_of rfl rfl rfl rfl) (fun _ _ _ _ h => h)) (pa_cons (pv 1) (pa_cons (pe_make T.mk_Ladder G_ladder_init (hr.mono (by decide)) (by rfl) T.x_Ladder T.bd_ladder_init .nil (passes_call (takes_of rfl rfl rfl rfl) (fun _ _ _ _ h => h)) (pa_cons (pe_fld (pv 1) rfl) (pa_cons (pe_op op_add (pe_op op_mod (pe_fld (pv 1) rfl) pe_int) pe_int) pa_nil))) pa_nil))))))))))))))))), ?_⟩
    obtain ⟨dx, fs, hp, hwidth, hhigh, hlimit, hmany, hm⟩ := R.ins hL
    have ok := R.ok hL
    have h12 := ok.h12
    have h1 := ok.h1
    have pl := pow_ge2 ok.w2 ok.h1
    have is : ∀ {j : Nat} {A B : Prop}, (k = j → A) → (k ≠ j → B) → if decide (V.int (k : Int) = V.int (j : Int)) = true then A else B := fun {j A B} a b => ite2 (fun z => a (by have := V.int.inj (of_decide_eq_true z); omega)) (fun z => b fun e => z (decide_eq_true (by rw [e])))
    refine ⟨_, rfl, rfl, _, rfl, is (j := 0) (fun e => ?_) (fun n0 => ?_)⟩
    · subst e
      refine ⟨_, rfl, p, _, dx, fs, _, rfl, hp, T.cl_Ladder, T.n_Ladder_width, hwidth, _, rfl, _, _, rfl, rfl, fun y dy ny ndy ne => ⟨H, y, dy, wd, 13 + far, rfl, rfl, ny, ndy, ne, fun _ H' _ => q H', fun l el _ _ _ l12 => absurd l12 (by omega)⟩⟩
    refine ⟨_, rfl, rfl, _, rfl, is (j := 1) (fun e => ?_) (fun n1 => ?_)⟩
    · subst e
      exact ⟨_, rfl, p, dx, fs, rfl, hp, hm _ (by decide +kernel), _, rfl, p, _, dx, fs, _, rfl, hp, T.cl_Ladder, T.n_Ladder_limit, hlimit, _, rfl, _, _, rfl, rfl, p, wd, h, [0], F, _, _, rfl, View.nothing hL, (by decide), fun _ H' _ => q H', fun m => absurd (List.mem_singleton.mp m) (by omega), fun _ z => absurd z (by omega)⟩
    refine ⟨_, rfl, rfl, _, rfl, is (j := 2) (fun e => ?_) (fun n2 => ?_)⟩
    · subst e
      exact ⟨_, rfl, p, dx, fs, rfl, hp, hm _ (by decide +kernel), p, wd, h, [0], F, _, 0, rfl, View.nothing hL, (by decide), fun z => absurd z (by omega), fun _ H' _ => q H', fun _ _ z => absurd List.mem_cons_self z⟩
    refine ⟨_, rfl, rfl, _, rfl, is (j := 3) (fun e => ?_) (fun n3 => ?_)⟩
    · subst e
      exact ⟨_, rfl, p, dx, fs, rfl, hp, hm _ (by decide +kernel), p, wd, h, [0], F, _, 1, rfl, View.nothing hL, (by decide), fun z => absurd z (by omega), fun _ _ _ H' _ => q H', fun m => absurd (List.mem_singleton.mp m) (by decide)⟩
    refine ⟨_, rfl, rfl, _, rfl, is (j := 4) (fun e => ?_) (fun n4 => ?_)⟩
    · subst e
      exact ⟨_, rfl, p, dx, fs, rfl, hp, hm _ (by decide +kernel), _, rfl, p, _, dx, fs, _, rfl, hp, T.cl_Ladder, T.n_Ladder_high, hhigh, _, _, rfl, rfl, _, rfl, _, _, rfl, rfl, p, wd, h, [0], F, _, rfl, hL, (by decide), fun _ H' _ => q H', fun l el hl => absurd el (by omega)⟩
    refine ⟨_, rfl, rfl, _, rfl, is (j := 5) (fun e => ?_) (fun n5 => ?_)⟩
    · subst e
      exact ⟨_, rfl, p, dx, fs, rfl, hp, hm _ (by decide +kernel), _, rfl, _, _, rfl, rfl, p, wd, h, [0], F, _, rfl, hL, (by decide), fun _ H' _ => q H', fun j ej hj => absurd hj (by show ¬ j < 1; omega)⟩
    obtain rfl : k = 6 := by omega
    refine ⟨_, rfl, _, rfl, p, _, dx, fs, _, rfl, hp, T.cl_Ladder, T.n_Ladder_width, hwidth, _, rfl, p, _, dx, fs, _, rfl, hp, T.cl_Ladder, T.n_Ladder_high, hhigh, _, _, rfl, rfl, (by show (0 : Int) < 12; decide), _, _, rfl, rfl, fun y dy ny ndy ne => ⟨H, y, dy, wd, _, rfl, rfl, ny, ndy, ne, fun z => absurd z ?_, fun l el _ _ _ l12 H2 F2 hM s2 out => ⟨rfl, ?_⟩⟩⟩
    · have := ok.w2
      have := ok.w9
      show ¬ (wd < 2 ∨ 9 < wd ∨ (h : Int) % 12 + 1 < 1 ∨ 12 < (h : Int) % 12 + 1)
      omega
    · have ne : h ≠ l := by omega
      exact ⟨p, y, wd, wd, h, l, [0], [], F, F2, rfl, R.same hL s2, hM, (by decide), fun _ H' _ => q H', fun _ e => absurd e ne, fun _ => .inl rfl, fun _ e => absurd e ne⟩
theorem ok_l_kinds (T : Txt K mg) (R : Rep K T.c_Ladder) (PR : Prog P w K mg base T R) : FnOk P w K mg base CX0 24 T.f_l_kinds T.fd_l_kinds ["_law_way", "_law_ladder", "_law_far"] (sp_l_kinds T R) := by
  have G_l_asked : FnOk P w K mg base (L2.CX P w) 23 T.f_l_asked T.fd_l_asked ["_law_way", "_law_ladder", "_law_far"] (sp_l_asked T R) := ok_l_asked T R PR
  refine T.F_l_kinds.ok sc_l_kinds (fun vs H Q E h => ?_) (fun cdv A outer s H vs Q E hr h => ?_)
  · obtain ⟨k, p, wd, h, F, far, rfl, _⟩ := h
    rfl
  · obtain ⟨k, p, wd, h, F, far, rfl, hL, hk, hfar, q⟩ := h
    refine ⟨_, (pss_cons (ps_try_as (i := 3) rfl rfl sc_l_kinds.nd rfl rfl ⟨rfl, by decide, .inl T.x_LadderError⟩ takes0 (fun W pn xe tk _ => (pss_one (ps_expr (pe_callS G_l_asked hr (by rfl) T.g_l_asked T.F_l_asked.kp T.bd_l_asked (fun σ => passAt tk σ) (pa_cons (pv 0) (pa_cons (pv 1) (pa_cons (pv 2) pa_nil))))))) (fun a oe cls dd pn hz hf => (pss_cons (ps_set (i := 4) sc_l_kinds.nd rfl (.inl rfl) (pe_lst (pa_cons (pe_callB (call_isEx hz hf) (by rfl) T.b_isinstance (by decide +kernel) (pa_cons (pv 3) (pa_cons (pe_glob (v := .ref T.c_BadSize) (by rfl) T.x_BadSize rfl) pa_nil))) (pa_cons (pe_callB (call_isEx hz hf) (by rfl) T.b_isinstance (by decide +kernel) (pa_cons (pv 3) (pa_cons (pe_glob (v := .ref T.c_OutOfRange) (by rfl) T.x_OutOfRange rfl) pa_nil))) (pa_cons (pe_callB (call_isEx hz hf) (by rfl) T.b_isinstance (by decide +kernel) (pa_cons (pv 3) (pa_cons (pe_glob (v := .ref T.c_Present) (by rfl) T.x_Present rfl) pa_nil))) (pa_cons (pe_callB (call_isEx hz hf) (by rfl) T.b_isinstance (by decide +kernel) (pa_cons (pv 3) (pa_cons (pe_glob (v := .ref T.c_Missing) (by rfl) T.x_Missing rfl) pa_nil))) pa_nil))))))
      (pss_one (ps_ret (pe_op op_cat (pv 4) (pe_lst (pa_cons (pe_callB (call_isEx hz hf) (by rfl) T.b_isinstance (by decide +kernel) (pa_cons (pv 3) (pa_cons (pe_glob (v := .ref T.c_NoLevel) (by rfl) T.x_NoLevel rfl) pa_nil))) (pa_cons (pe_callB (call_isEx hz hf) (by rfl) T.b_isinstance (by decide +kernel) (pa_cons (pv 3) (pa_cons (pe_glob (v := .ref T.c_NoPlace) (by rfl) T.x_NoPlace rfl) pa_nil))) (pa_cons (pe_callB (call_isEx hz hf) (by rfl) T.b_isinstance (by decide +kernel) (pa_cons (pv 3) (pa_cons (pe_glob (v := .ref T.c_OtherSize) (by rfl) T.x_OtherSize rfl) pa_nil))) pa_nil))))))))))
      (pss_one (ps_ret (pe_lst pa_nil)))), ?_⟩
    have ex : ∀ c, c < 7 → PySem.W.exmOne K (.ref (errOf T c)) (.ref T.c_LadderError) = some true ∧ ExcC K (errOf T c) := fun c hc => by
      match c, hc with
      | 0, _ => exact ⟨T.exm_BadSize_LadderError, T.ec_BadSize⟩
      | 1, _ => exact ⟨T.exm_OutOfRange_LadderError, T.ec_OutOfRange⟩
      | 2, _ => exact ⟨T.exm_Present_LadderError, T.ec_Present⟩
      | 3, _ => exact ⟨T.exm_Missing_LadderError, T.ec_Missing⟩
      | 4, _ => exact ⟨T.exm_NoLevel_LadderError, T.ec_NoLevel⟩
      | 5, _ => exact ⟨T.exm_NoPlace_LadderError, T.ec_NoPlace⟩
      | 6, _ => exact ⟨T.exm_OtherSize_LadderError, T.ec_OtherSize⟩
    have kit : ∀ c d, c < 7 → d < 7 → PySem.W.kitOne K (.ref (errOf T c)) (.ref (errOf T d)) = some (decide (d = c)) := fun c d hc hd => by
      match c, d, hc, hd with
      | 0, 0, _, _ => exact T.kit_BadSize_BadSize
      | 0, 1, _, _ => exact T.kit_BadSize_OutOfRange
      | 0, 2, _, _ => exact T.kit_BadSize_Present
      | 0, 3, _, _ => exact T.kit_BadSize_Missing
      | 0, 4, _, _ => exact T.kit_BadSize_NoLevel
      | 0, 5, _, _ => exact T.kit_BadSize_NoPlace
      | 0, 6, _, _ => exact T.kit_BadSize_OtherSize
      | 1, 0, _, _ => exact T.kit_OutOfRange_BadSize
      | 1, 1, _, _ => exact T.kit_OutOfRange_OutOfRange
      | 1, 2, _, _ => exact T.kit_OutOfRange_Present
      | 1, 3, _, _ => exact T.kit_OutOfRange_Missing
      | 1, 4, _, _ => exact T.kit_OutOfRange_NoLevel
      | 1, 5, _, _ => exact T.kit_OutOfRange_NoPlace
      | 1, 6, _, _ => exact T.kit_OutOfRange_OtherSize
      | 2, 0, _, _ => exact T.kit_Present_BadSize
      | 2, 1, _, _ => exact T.kit_Present_OutOfRange
      | 2, 2, _, _ => exact T.kit_Present_Present
      | 2, 3, _, _ => exact T.kit_Present_Missing
      | 2, 4, _, _ => exact T.kit_Present_NoLevel
      | 2, 5, _, _ => exact T.kit_Present_NoPlace
      | 2, 6, _, _ => exact T.kit_Present_OtherSize
      | 3, 0, _, _ => exact T.kit_Missing_BadSize
      | 3, 1, _, _ => exact T.kit_Missing_OutOfRange
      | 3, 2, _, _ => exact T.kit_Missing_Present
      | 3, 3, _, _ => exact T.kit_Missing_Missing
      | 3, 4, _, _ => exact T.kit_Missing_NoLevel
      | 3, 5, _, _ => exact T.kit_Missing_NoPlace
      | 3, 6, _, _ => exact T.kit_Missing_OtherSize
      | 4, 0, _, _ => exact T.kit_NoLevel_BadSize
      | 4, 1, _, _ => exact T.kit_NoLevel_OutOfRange
      | 4, 2, _, _ => exact T.kit_NoLevel_Present
      | 4, 3, _, _ => exact T.kit_NoLevel_Missing
      | 4, 4, _, _ => exact T.kit_NoLevel_NoLevel
      | 4, 5, _, _ => exact T.kit_NoLevel_NoPlace
      | 4, 6, _, _ => exact T.kit_NoLevel_OtherSize
      | 5, 0, _, _ => exact T.kit_NoPlace_BadSize
      | 5, 1, _, _ => exact T.kit_NoPlace_OutOfRange
      | 5, 2, _, _ => exact T.kit_NoPlace_Present
      | 5, 3, _, _ => exact T.kit_NoPlace_Missing
      | 5, 4, _, _ => exact T.kit_NoPlace_NoLevel
      | 5, 5, _, _ => exact T.kit_NoPlace_NoPlace
      | 5, 6, _, _ => exact T.kit_NoPlace_OtherSize
      | 6, 0, _, _ => exact T.kit_OtherSize_BadSize
      | 6, 1, _, _ => exact T.kit_OtherSize_OutOfRange
      | 6, 2, _, _ => exact T.kit_OtherSize_Present
      | 6, 3, _, _ => exact T.kit_OtherSize_Missing
      | 6, 4, _, _ => exact T.kit_OtherSize_NoLevel
      | 6, 5, _, _ => exact T.kit_OtherSize_NoPlace
      | 6, 6, _, _ => exact T.kit_OtherSize_OtherSize
    obtain ⟨e1, e2⟩ := ex k hk
    refine ⟨_, rfl, _, rfl, _, rfl, k, p, wd, h, F, far, rfl, hL, hk, hfar, fun H1 => ⟨true, e1, fun _ a na => ?_, (fun z => nomatch z)⟩⟩
    refine ⟨_, rfl, errOf T k, .ref (errOf T 0), .ref (errOf T 0), _, rfl, rfl, e2, rfl, fun _ r => r, kit k 0 hk (by decide), _, rfl, errOf T k, .ref (errOf T 1), .ref (errOf T 1), _, rfl, rfl, e2, rfl, fun _ r => r, kit k 1 hk (by decide), _, rfl, errOf T k, .ref (errOf T 2), .ref (errOf T 2), _, rfl, rfl, e2, rfl, fun _ r => r, kit k 2 hk (by decide), _, rfl, errOf T k, .ref (errOf T 3), .ref (errOf T 3), _, rfl, rfl, e2, rfl, fun _ r => r, kit k 3 hk (by decide), (by show 4 ≤ sizeLine; decide), fun b nb => ?_⟩
    dsimp only [gName]
    refine ⟨_, rfl, _, rfl, errOf T k, .ref (errOf T 4), .ref (errOf T 4), _, rfl, rfl, e2, rfl, fun _ r => r, kit k 4 hk (by decide), _, rfl, errOf T k, .ref (errOf T 5), .ref (errOf T 5), _, rfl, rfl, e2, rfl, fun _ r => r, kit k 5 hk (by decide), _, rfl, errOf T k, .ref (errOf T 6), .ref (errOf T 6), _, rfl, rfl, e2, rfl, fun _ r => r, kit k 6 hk (by decide), (by show 3 ≤ sizeLine; decide), fun c nc => ?_⟩
    have bc : b ≠ c := fun z => by
      rw [← z, upd_same] at nc
      cases nc
    refine ⟨b, c, _, _, rfl, rfl, by rw [upd_ne bc, upd_same], upd_same, (by show 7 ≤ sizeLine; decide), fun r nr => q _ r ?_⟩
    rw [upd_same]
    rfl
theorem ok_l_empty (T : Txt K mg) (R : Rep K T.c_Ladder) (PR : Prog P w K mg base T R) : FnOk P w K mg base CX0 22 T.f_l_empty T.fd_l_empty ["_law_ladder", "_law_number", "_law_place"] (sp_l_empty T R) := by
  have G_ladder_row := PR.row
  have G_ladder_trail := PR.trail
  have G_ladder_stretch := PR.stretch
  have G_ladder_place := PR.place
  have G_ladder_counted := PR.counted
  have G_l_no_place : FnOk P w K mg base CX0 21 T.f_l_no_place T.fd_l_no_place ["_law_ladder", "_law_place"] (sp_l_no_place T R) := ok_l_no_place T R PR
  have G_ladder_level := PR.level
  have G_ladder_below := PR.below
  have G_ladder_above := PR.above
  have G_ladder_has := PR.has
  have G_l_whole : FnOk P w K mg base CX0 1 T.f_l_whole T.fd_l_whole ["_law_found"] (sp_l_whole T R) := ok_l_whole T R PR
  refine T.F_l_empty.ok sc_l_empty (fun vs H Q E h => ?_) (fun cdv A outer s H vs Q E hr h => ?_)
  · obtain ⟨p, wd, h, F, n, k, rfl, _⟩ := h
    rfl
  · obtain ⟨p, wd, h, F, n, k, rfl, hL, n0, nl, q⟩ := h
    refine ⟨_, (pss_cons (ps_set (i := 3) sc_l_empty.nd rfl (.inl rfl) (pe_lst (pa_cons (pe_meth0 (pv 0) T.cl_Ladder T.m_ladder_row G_ladder_row (hr.mono (by decide)) T.bd_ladder_row .nil pass0) (pa_cons (pe_meth (pv 0) T.cl_Ladder T.m_ladder_trail G_ladder_trail (hr.mono (by decide)) T.bd_ladder_trail .nil passL (pa_cons (pv 1) pa_nil)) (pa_cons (pe_meth (pv 0) T.cl_Ladder T.m_ladder_stretch G_ladder_stretch (hr.mono (by decide)) T.bd_ladder_stretch .nil passL (pa_cons pe_int (pa_cons (pe_fld (pv 0) rfl) pa_nil))) pa_nil)))))
      (pss_cons (ps_set (i := 3) sc_l_empty.nd rfl (.inl rfl) (pe_op op_cat (pv 3) (pe_lc (own := [("_law_level", 6)]) (g := gName 6) (by rfl) sc_l_empty.nd (pi_range1 (by rfl) T.b_range (pa_cons (pe_op op_add (pe_fld (pv 0) rfl) pe_int) pa_nil)) (blkOk_by (own := [("_law_level", 6)]) (N := ["_law_ladder", "_law_number", "_law_place", "_law_rows", "_law_row", "_law_found", "_law_level"]) (sc := defScope s_l_empty) (by decide +kernel)) (fun _ _ _ _ _ => (pg_name (i := 6) sc_l_empty.nd rfl (Or.inl rfl))) (fun _ _ _ _ _ => pts_nil) (fun _ _ _ _ _ => (pe_meth (pv 0) T.cl_Ladder T.m_ladder_level G_ladder_level (hr.mono (by decide)) T.bd_ladder_level .nil passL (pa_cons (pv 6) pa_nil))))))
      (pss_cons (ps_for PassesOwn.never rfl (pi_list (pv 3)) (pg_name (i := 4) sc_l_empty.nd rfl (.inl rfl)) (pss_one (ps_if (PW.pt (pw_or (pt_not (pt_val (pe_callB call_isi (by rfl) T.b_isinstance (by decide +kernel) (pa_cons (pv 4) (pa_cons (pe_bltn (v := .ty "list") (by rfl) T.b_list (by decide +kernel) rfl) pa_nil))))) (pw_or1 (pt_cmpR (op_neD hr.units) (pv 4) (pe_lst pa_nil) (nomark _))))) (pss_one (ps_ret pe_bl)) pss_nil)))
      (pss_cons (ps_if (PW.pt (pw_or (pt_cmpR op_notN (pe_meth (pv 0) T.cl_Ladder T.m_ladder_below G_ladder_below (hr.mono (by decide)) T.bd_ladder_below .nil passL (pa_cons (pv 1) pa_nil)) pe_non (nomark _)) (pw_or (pt_cmpR op_notN (pe_meth (pv 0) T.cl_Ladder T.m_ladder_above G_ladder_above (hr.mono (by decide)) T.bd_ladder_above .nil passL (pa_cons (pv 1) pa_nil)) pe_non (nomark _)) (pw_or1 (pt_cmpR op_notBl (pe_meth (pv 0) T.cl_Ladder T.m_ladder_has G_ladder_has (hr.mono (by decide)) T.bd_ladder_has .nil passL (pa_cons (pv 1) pa_nil)) pe_bl (nomark _)))))) (pss_one (ps_ret pe_bl)) pss_nil)
      (pss_cons (ps_for PassesOwn.never rfl (pi_list (pe_lst (pa_cons (pe_meth (pv 0) T.cl_Ladder T.m_ladder_place G_ladder_place (hr.mono (by decide)) T.bd_ladder_place .nil passL (pa_cons (pv 1) pa_nil)) (pa_cons (pe_meth (pv 0) T.cl_Ladder T.m_ladder_place G_ladder_place (hr.mono (by decide)) T.bd_ladder_place .nil passL (pa_cons (pe_fld (pv 0) rfl) pa_nil)) (pa_cons (pe_meth (pv 0) T.cl_Ladder T.m_ladder_counted G_ladder_counted (hr.mono (by decide)) T.bd_ladder_counted .nil passL (pa_cons pe_int (pa_cons (pe_fld (pv 0) rfl) pa_nil))) pa_nil))))) (pg_name (i := 5) sc_l_empty.nd rfl (.inl rfl)) (pss_one (ps_if (PW.pt (pw_or (pt_not (pt_val (pe_call G_l_whole (hr.mono (by decide)) (by rfl) T.g_l_whole T.F_l_whole.kp T.bd_l_whole .nil pass0 (pa_cons (pv 5) pa_nil)))) (pw_or1 (pt_cmpR op_ne (pv 5) pe_int (nomark _))))) (pss_one (ps_ret pe_bl)) pss_nil)))
      (pss_one (ps_ret (pe_and (pe_call G_l_no_place hr (by rfl) T.g_l_no_place T.F_l_no_place.kp T.bd_l_no_place .nil pass0 (pa_cons (pv 0) (pa_cons (pv 2) pa_nil))) (pe_one (pe_call G_l_no_place hr (by rfl) T.g_l_no_place T.F_l_no_place.kp T.bd_l_no_place .nil pass0 (pa_cons (pv 0) (pa_cons pe_int pa_nil)))))))))))), ?_⟩
    obtain ⟨dx, fs, hp, hwidth, hhigh, hlimit, hmany, hm⟩ := R.ins hL
    have ok := R.ok hL
    have h12 := ok.h12
    have pl := pow_ge2 ok.w2 ok.h1
    -- the rows
    refine ⟨_, rfl, p, dx, fs, rfl, hp, hm _ (by decide +kernel), p, wd, h, [], F, rfl, hL, (by decide), fun H1 r1 s1 m1 e1 => ?_⟩
    refine ⟨_, rfl, p, dx, fs, rfl, s1 _ _ hp, hm _ (by decide +kernel), _, rfl, p, wd, h, [], F, _, n, rfl, View.nothing (R.same hL s1), (by decide), fun z => absurd z (by omega), fun _ _ H2 G2 r2 us v2 _ s2 _ _ e2 d2 => ?_⟩
    have eu : us = [] := by
      cases d2
      rfl
    subst eu
    have u2 := s1.trans s2
    refine ⟨_, rfl, p, dx, fs, rfl, u2 _ _ hp, hm _ (by decide +kernel), _, rfl, p, _, dx, fs, _, rfl, u2 _ _ hp, T.cl_Ladder, T.n_Ladder_limit, hlimit, p, wd, h, [], F, 0, _, rfl, R.same hL u2, (by decide), fun z => absurd z (by omega), fun _ _ _ _ H3 r3 s3 m3 e3 => ⟨(by show 3 ≤ sizeLine; decide), fun b nb => ?_⟩⟩
    have u3 := u2.trans s3
    have sb := same_upd (o := .lst [.ref r1, .ref r2, .ref r3]) nb
    have u4 := u3.trans sb
    have a1 := sb _ _ (s3 _ _ (s2 _ _ e1))
    have a2 := sb _ _ (s3 _ _ (v2.sub _ _ e2))
    have a3 := sb _ _ e3
    have eb : (upd H3 b (.lst [.ref r1, .ref r2, .ref r3])) b = some (.lst [.ref r1, .ref r2, .ref r3]) := upd_same
    have all3 : ∀ x ∈ [V.ref r1, V.ref r2, V.ref r3], ∃ r, x = .ref r ∧ (upd H3 b (.lst [.ref r1, .ref r2, .ref r3])) r = some (.lst []) := fun x hx => by
      rcases List.mem_cons.mp hx with z | hx
      · exact ⟨r1, z, a1⟩
      rcases List.mem_cons.mp hx with z | hx
      · exact ⟨r2, z, a2⟩
      · exact ⟨r3, List.mem_singleton.mp hx, a3⟩
    have l3 : [V.ref r1, V.ref r2, V.ref r3].length = 3 := rfl
    clear a1 a2 a3 e1 e2 e3 v2
    revert u4 eb all3 l3
    generalize upd H3 b (.lst [.ref r1, .ref r2, .ref r3]) = H4
    generalize [V.ref r1, V.ref r2, V.ref r3] = bs
    intro u4 eb all3 l3
    dsimp only [gName]
    refine ⟨_, rfl, _, rfl, p, _, dx, fs, _, rfl, u4 _ _ hp, T.cl_Ladder, T.n_Ladder_high, hhigh, _, _, rfl, rfl, _, rfl, by omega, by omega, fun D nD => ?_⟩
    refine lc_range (lo := 0) (n := h + 1) (fun i H' => ∃ us, Same H4 H' ∧ H' D = some (.lst us) ∧ (∀ x ∈ us, ∃ r, x = .ref r ∧ r ≠ D ∧ H' r = some (.lst [])) ∧ us.length = i) ⟨[], same_upd nD, upd_same, (fun x hx => nomatch hx), rfl⟩ (fun i H' hi hh => ?_) (fun H5 hh => ?_)
    · obtain ⟨us, sH, hD, hall, ul⟩ := hh
      rw [Int.zero_add]
      have u5 := u4.trans sH
      refine ⟨rfl, ?_⟩
      dsimp only [tYes]
      rw [if_pos rfl]
      refine ⟨_, rfl, p, dx, fs, rfl, u5 _ _ hp, hm _ (by decide +kernel), _, rfl, p, wd, h, [], F, (i : Int), rfl, R.same hL u5, (by decide), fun z => absurd z (by omega), fun l el hl H6 r s6 nr hr => ⟨us, s6 _ _ hD, small1000 (by omega), us ++ [.ref r], same_mut (sH.trans s6) nD, upd_same, fun x hx => ?_, by rw [List.length_append, ul]; rfl⟩⟩
      have rD : r ≠ D := fun z => by
        rw [z, hD] at nr
        cases nr
      rcases List.mem_append.mp hx with m | m
      · obtain ⟨r', e, ne, e2⟩ := hall x m
        exact ⟨r', e, ne, by rw [upd_ne ne]; exact s6 _ _ e2⟩
      · exact ⟨r, List.mem_singleton.mp m, rD, by rw [upd_ne rD]; exact hr⟩
    obtain ⟨us, sH, hD, hall, ul⟩ := hh
    refine ⟨b, D, _, _, rfl, rfl, sH _ _ eb, hD, ?_, fun c nc => ?_⟩
    · refine Nat.le_of_lt (small1000 ?_)
      omega
    have sc := same_upd (o := .lst (bs ++ us)) nc
    have u6 := (u4.trans sH).trans sc
    have allc : ∀ x ∈ bs ++ us, ∃ r, x = .ref r ∧ (upd H5 c (.lst (bs ++ us))) r = some (.lst []) := fun x hx => by
      rcases List.mem_append.mp hx with m | m
      · obtain ⟨r, e, e2⟩ := all3 x m
        exact ⟨r, e, sc _ _ (sH _ _ e2)⟩
      · obtain ⟨r, e, _, e2⟩ := hall x m
        exact ⟨r, e, sc _ _ e2⟩
    have ec : (upd H5 c (.lst (bs ++ us))) c = some (.lst (bs ++ us)) := upd_same
    revert u6 allc ec
    generalize upd H5 c (.lst (bs ++ us)) = H6
    generalize bs ++ us = cs
    intro u6 allc ec
    dsimp only [gName]
    refine ⟨_, rfl, c, rfl, ⟨_, SqL.of ec⟩, for_list (K := K) (a := c) (xs := cs) (fun i σ H' => Same H6 H' ∧ ∃ y, σ = [nR p, nI n, nI k, nR c, y, none, none]) ⟨Same.refl _, none, rfl⟩ (fun i σ H' _ hh => SqL.of (hh.1 _ _ ec)) ?_ ?_⟩
    · rintro i x σ H' hi ⟨sH, y, rfl⟩
      obtain ⟨r, rfl, hr⟩ := allc x (List.mem_of_getElem? hi)
      have hrH := sH _ _ hr
      dsimp only [gName]
      refine ⟨_, rfl, .ref r, .ty "list", .type "list", .type "list", true, rfl, .ty _, .base (.lst hrH), kit_ty (by decide +kernel), true, rfl, iteF ?_⟩
      refine ⟨_, rfl, (by show 0 ≤ sizeLine; decide), fun z nz => neD_ints (ns := []) (ms := []) (SqL.of ((same_upd nz) _ _ hrH)) (SqL.of upd_same) rfl ⟨false, rfl, iteF ⟨sH.trans (same_upd nz), _, rfl⟩⟩⟩
    rintro σ H7 ⟨s7, y, rfl⟩
    have u7 := u6.trans s7
    -- the nearest ones
    refine ⟨_, rfl, p, dx, fs, rfl, u7 _ _ hp, hm _ (by decide +kernel), _, rfl, p, wd, h, [], F, n, rfl, R.same hL u7, (by decide), fun z => absurd z (by omega), fun _ _ H8 s8 => ⟨rfl, _, rfl, iteNS rfl ?_⟩⟩
    have u8 := u7.trans s8
    refine ⟨_, rfl, p, dx, fs, rfl, u8 _ _ hp, hm _ (by decide +kernel), _, rfl, p, wd, h, [], F, n, rfl, R.same hL u8, (by decide), fun z => absurd z (by omega), fun _ _ H9 s9 => ⟨rfl, _, rfl, iteNS rfl ?_⟩⟩
    have u9 := u8.trans s9
    refine ⟨_, rfl, p, dx, fs, rfl, u9 _ _ hp, hm _ (by decide +kernel), _, rfl, p, wd, h, [], F, n, rfl, R.same hL u9, (by decide), fun z => absurd z (by omega), fun _ _ H10 s10 => ⟨_, _, rfl, rfl, _, rfl, iteNS (by simp) ?_⟩⟩
    have u10 := u9.trans s10
    -- places and counts
    refine ⟨_, rfl, p, dx, fs, rfl, u10 _ _ hp, hm _ (by decide +kernel), _, rfl, p, wd, h, [], F, n, rfl, R.same hL u10, (by decide), fun z => absurd z (by omega), fun _ _ H11 s11 => ?_⟩
    have u11 := u10.trans s11
    refine ⟨_, rfl, p, dx, fs, rfl, u11 _ _ hp, hm _ (by decide +kernel), _, rfl, p, _, dx, fs, _, rfl, u11 _ _ hp, T.cl_Ladder, T.n_Ladder_limit, hlimit, p, wd, h, [], F, _, rfl, R.same hL u11, (by decide), fun z => absurd z (by omega), fun _ _ H12 s12 => ?_⟩
    have u12 := u11.trans s12
    refine ⟨_, rfl, p, dx, fs, rfl, u12 _ _ hp, hm _ (by decide +kernel), _, rfl, p, _, dx, fs, _, rfl, u12 _ _ hp, T.cl_Ladder, T.n_Ladder_limit, hlimit, p, wd, h, [], F, 0, _, rfl, R.same hL u12, (by decide), fun z => absurd z (by omega), fun _ _ _ _ H13 s13 => ⟨(by show 3 ≤ sizeLine; decide), fun d nd => ⟨d, rfl, ⟨_, SqL.of upd_same⟩, ?_⟩⟩⟩
    have u13 := (u12.trans s13).trans (same_upd (o := .lst [.int 0, .int 0, .int 0]) nd)
    have ed : (upd H13 d (.lst [.int 0, .int 0, .int 0])) d = some (.lst ([0, 0, 0].map V.int)) := upd_same
    revert u13 ed
    show Same H (upd H13 d (.lst [.int (placeN [] n : Int), .int (placeN [] (wd ^ h) : Int), .int ((stretchL [] 0 (wd ^ h)).length : Int)])) → (upd H13 d (.lst [.int (placeN [] n : Int), .int (placeN [] (wd ^ h) : Int), .int ((stretchL [] 0 (wd ^ h)).length : Int)])) d = some (.lst ([0, 0, 0].map V.int)) → _
    generalize upd H13 d (.lst [.int (placeN [] n : Int), .int (placeN [] (wd ^ h) : Int), .int ((stretchL [] 0 (wd ^ h)).length : Int)]) = H14
    intro u13 ed
    refine for_list (K := K) (a := d) (xs := [0, 0, 0].map V.int) (fun i σ H' => Same H14 H' ∧ ∃ z, σ = [nR p, nI n, nI k, nR c, y, z, none]) ⟨Same.refl _, none, rfl⟩ (fun i σ H' _ hh => SqL.of (hh.1 _ _ ed)) ?_ ?_
    · rintro i x σ H' hi ⟨sH, z, rfl⟩
      obtain ⟨il, rfl, mx⟩ := int_at hi
      have e0 : [(0 : Int), 0, 0].getD i 0 = 0 := by
        have : ∀ x ∈ [(0 : Int), 0, 0], x = 0 := by decide
        exact this _ mx
      rw [e0]
      dsimp only [gName]
      exact ⟨_, rfl, 0, rfl, true, rfl, iteF ⟨_, rfl, rfl, _, rfl, iteNS rfl ⟨sH, _, rfl⟩⟩⟩
    rintro σ H15 ⟨s15, z, rfl⟩
    have u15 := u13.trans s15
    refine ⟨_, rfl, _, rfl, p, wd, h, [], F, k, rfl, R.same hL u15, (by decide), by show k < 0 ∨ (0 : Int) ≤ k; omega, fun H16 s16 => ⟨true, rfl, ?_⟩⟩
    exact ⟨_, rfl, p, wd, h, [], F, 0, rfl, R.same hL (u15.trans s16), (by decide), by show (0 : Int) < 0 ∨ (0 : Int) ≤ 0; omega, fun H17 s17 => q H17 ((u15.trans s16).trans s17)⟩
theorem ok_law {f : Addr} {fd : FuncData} (F : Fun K "law" "law" s_law f fd) (T : Txt K mg) (R : Rep K T.c_Ladder) (PR : Prog P w K mg base T R) : FnOk P w K mg base CX0 25 f fd ["_law_script"] (sp_law K) := by
  have G_ladder_init := PR.init
  have G_ladder_put := PR.put
  have G_l_cell_at : FnOk P w K mg base CX0 1 T.f_l_cell_at T.fd_l_cell_at ["_law_script", "_law_k"] (sp_l_cell_at T R) := ok_l_cell_at T R PR
  have G_l_empty : FnOk P w K mg base CX0 22 T.f_l_empty T.fd_l_empty ["_law_ladder", "_law_number", "_law_place"] (sp_l_empty T R) := ok_l_empty T R PR
  have G_l_kinds : FnOk P w K mg base CX0 24 T.f_l_kinds T.fd_l_kinds ["_law_way", "_law_ladder", "_law_far"] (sp_l_kinds T R) := ok_l_kinds T R PR
  have G_l_refused : FnOk P w K mg base CX0 22 T.f_l_refused T.fd_l_refused ["_law_width", "_law_high"] (sp_l_refused T R) := ok_l_refused T R PR
  have G_l_refused_by_any : FnOk P w K mg base CX0 22 T.f_l_refused_by_any T.fd_l_refused_by_any ["_law_width", "_law_high"] (sp_l_refused_by_any T R) := ok_l_refused_by_any T R PR
  have G_l_whole : FnOk P w K mg base CX0 1 T.f_l_whole T.fd_l_whole ["_law_found"] (sp_l_whole T R) := ok_l_whole T R PR
  have G_l_no_level : FnOk P w K mg base CX0 21 T.f_l_no_level T.fd_l_no_level ["_law_ladder", "_law_level"] (sp_l_no_level T R) := ok_l_no_level T R PR
  refine F.ok sc_law (fun vs H Q E h => ?_) (fun cdv A outer s H vs Q E hr h => ?_)
  · obtain ⟨a, ns, rfl, _⟩ := h
    rfl
  · obtain ⟨a, ns, rfl, hS, hlen, q⟩ := h
    refine ⟨_, (pss_cons (ps_set (i := 1) sc_law.nd rfl (.inl rfl) (pe_op op_sub (pe_op op_mod (pe_call G_l_cell_at (hr.mono (by decide)) (by rfl) T.g_l_cell_at T.F_l_cell_at.kp T.bd_l_cell_at .nil pass0 (pa_cons (pv 0) (pa_cons pe_int pa_nil))) pe_int) pe_int))
      (pss_cons (ps_set (i := 2) sc_law.nd rfl (.inl rfl) (pe_op op_sub (pe_op op_mod (pe_call G_l_cell_at (hr.mono (by decide)) (by rfl) T.g_l_cell_at T.F_l_cell_at.kp T.bd_l_cell_at .nil pass0 (pa_cons (pv 0) (pa_cons pe_int pa_nil))) pe_int) pe_int))
      (pss_cons (ps_set (i := 3) sc_law.nd rfl (.inl rfl) (pe_op op_mod (pe_call G_l_cell_at (hr.mono (by decide)) (by rfl) T.g_l_cell_at T.F_l_cell_at.kp T.bd_l_cell_at .nil pass0 (pa_cons (pv 0) (pa_cons pe_int pa_nil))) (pe_op op_pow pe_int pe_int)))
      (Evl.pss_cut (ps_if (pt_cmpR op_eq (pe_op op_mod (pe_call G_l_cell_at (hr.mono (by decide)) (by rfl) T.g_l_cell_at T.F_l_cell_at.kp T.bd_l_cell_at .nil pass0 (pa_cons (pv 0) (pa_cons pe_int pa_nil))) pe_int) pe_int (nomark _)) (pss_one (ps_set (i := 1) sc_law.nd rfl (.inl rfl) (pe_ix ix_list (pe_lst (pa_cons (pe_op op_sub (pe_un un_neg pe_int) (pv 3)) (pa_cons (pe_op op_add pe_int (pv 3)) pa_nil))) (pe_op op_mod (pe_op op_fdivW (pe_call G_l_cell_at (hr.mono (by decide)) (by rfl) T.g_l_cell_at T.F_l_cell_at.kp T.bd_l_cell_at .nil pass0 (pa_cons (pv 0) (pa_cons pe_int pa_nil))) pe_int) pe_int) (fun _ _ => rfl)))) pss_nil)
      (Evl.pss_cut (ps_if (pt_cmpR op_eq (pe_op op_mod (pe_call G_l_cell_at (hr.mono (by decide)) (by rfl) T.g_l_cell_at T.F_l_cell_at.kp T.bd_l_cell_at .nil pass0 (pa_cons (pv 0) (pa_cons pe_int pa_nil))) pe_int) pe_int (nomark _)) (pss_one (ps_set (i := 2) sc_law.nd rfl (.inl rfl) (pe_ix ix_list (pe_lst (pa_cons (pe_op op_sub (pe_un un_neg pe_int) (pv 3)) (pa_cons (pe_op op_add pe_int (pv 3)) pa_nil))) (pe_op op_mod (pe_op op_fdivW (pe_call G_l_cell_at (hr.mono (by decide)) (by rfl) T.g_l_cell_at T.F_l_cell_at.kp T.bd_l_cell_at .nil pass0 (pa_cons (pv 0) (pa_cons pe_int pa_nil))) pe_int) pe_int) (fun _ _ => rfl)))) pss_nil)
      (pss_cons (ps_if (PW.pt (pw_or (pt_cmpR op_lt (pv 1) pe_int (nomark _)) (pw_or (pt_cmpR op_gt (pv 1) pe_int (nomark _)) (pw_or (pt_cmpR op_lt (pv 2) pe_int (nomark _)) (pw_or1 (pt_cmpR op_gt (pv 2) pe_int (nomark _))))))) (pss_one (ps_ret (pe_and (pe_call G_l_refused (hr.mono (by decide)) (by rfl) T.g_l_refused T.F_l_refused.kp T.bd_l_refused .nil pass0 (pa_cons (pv 1) (pa_cons (pv 2) pa_nil))) (pe_one (pe_call G_l_refused_by_any (hr.mono (by decide)) (by rfl) T.g_l_refused_by_any T.F_l_refused_by_any.kp T.bd_l_refused_by_any .nil pass0 (pa_cons (pv 1) (pa_cons (pv 2) pa_nil))))))) pss_nil)
      (pss_cons (ps_set (i := 4) sc_law.nd rfl (.inl rfl) (pe_make T.mk_Ladder G_ladder_init (hr.mono (by decide)) (by rfl) T.x_Ladder T.bd_ladder_init .nil passL (pa_cons (pv 1) (pa_cons (pv 2) pa_nil))))
      (pss_cons (ps_set (i := 5) sc_law.nd rfl (.inl rfl) pe_int)
      (pss_cons (ps_for PassesOwn.never rfl (pi_range1 (by rfl) T.b_range (pa_cons (pv 2) pa_nil)) (pg_name (i := 6) sc_law.nd rfl (.inl rfl)) (pss_one (ps_set (i := 5) sc_law.nd rfl (.inl rfl) (pe_op op_mul (pv 5) (pv 1)))))
      (pss_cons (ps_for PassesOwn.never rfl (pi_list (pe_lst (pa_cons (pe_fld (pv 4) rfl) (pa_cons (pe_fld (pv 4) rfl) (pa_cons (pe_fld (pv 4) rfl) (pa_cons (pe_fld (pv 4) rfl) pa_nil)))))) (pg_name (i := 7) sc_law.nd rfl (.inl rfl)) (pss_one (ps_if (pt_not (pt_val (pe_call G_l_whole (hr.mono (by decide)) (by rfl) T.g_l_whole T.F_l_whole.kp T.bd_l_whole .nil pass0 (pa_cons (pv 7) pa_nil)))) (pss_one (ps_ret pe_bl)) pss_nil)))
      (pss_cons (ps_if (pt_cmpR (op_neD hr.units) (pe_lst (pa_cons (pe_fld (pv 4) rfl) (pa_cons (pe_fld (pv 4) rfl) (pa_cons (pe_fld (pv 4) rfl) (pa_cons (pe_fld (pv 4) rfl) pa_nil))))) (pe_lst (pa_cons (pv 1) (pa_cons (pv 2) (pa_cons (pv 5) (pa_cons pe_int pa_nil))))) (nomark _)) (pss_one (ps_ret pe_bl)) pss_nil)
      (pss_cons (ps_if (PW.pt (pw_or (pt_not (pt_val (pe_call G_l_no_level (hr.mono (by decide)) (by rfl) T.g_l_no_level T.F_l_no_level.kp T.bd_l_no_level .nil pass0 (pa_cons (pv 4) (pa_cons (pe_op op_sub (pe_un un_neg pe_int) (pv 3)) pa_nil))))) (pw_or1 (pt_not (pt_val (pe_call G_l_no_level (hr.mono (by decide)) (by rfl) T.g_l_no_level T.F_l_no_level.kp T.bd_l_no_level .nil pass0 (pa_cons (pv 4) (pa_cons (pe_op op_add (pe_op op_add (pv 2) pe_int) (pv 3)) pa_nil)))))))) (pss_one (ps_ret pe_bl)) pss_nil)
      (pss_cons (ps_if (pt_not (pt_val (pe_call G_l_empty (hr.mono (by decide)) (by rfl) T.g_l_empty T.F_l_empty.kp T.bd_l_empty .nil pass0 (pa_cons (pv 4) (pa_cons (pe_op op_mod (pe_call G_l_cell_at (hr.mono (by decide)) (by rfl) T.g_l_cell_at T.F_l_cell_at.kp T.bd_l_cell_at .nil pass0 (pa_cons (pv 0) (pa_cons pe_int pa_nil))) (pv 5)) (pa_cons (pe_op op_sub (pe_op op_mod (pe_call G_l_cell_at (hr.mono (by decide)) (by rfl) T.g_l_cell_at T.F_l_cell_at.kp T.bd_l_cell_at .nil pass0 (pa_cons (pv 0) (pa_cons pe_int pa_nil))) (pe_op op_pow pe_int pe_int)) (pe_op op_pow pe_int pe_int)) pa_nil)))))) (pss_one (ps_ret pe_bl)) pss_nil)
      (pss_cons (ps_expr (pe_meth (pv 4) T.cl_Ladder T.m_ladder_put G_ladder_put (hr.mono (by decide)) T.bd_ladder_put .nil passL (pa_cons pe_int pa_nil)))
      (pss_cons (ps_set (i := 8) sc_law.nd rfl (.inr rfl) (pe_op op_mod (pe_op op_fdivW (pe_call G_l_cell_at (hr.mono (by decide)) (by rfl) T.g_l_cell_at T.F_l_cell_at.kp T.bd_l_cell_at .nil pass0 (pa_cons (pv 0) (pa_cons pe_int pa_nil))) pe_int) pe_int))
      (pss_one (ps_ret (pe_cmpR (op_eqD hr.units) (pe_call G_l_kinds hr (by rfl) T.g_l_kinds T.F_l_kinds.kp T.bd_l_kinds .nil pass0 (pa_cons (pv 8) (pa_cons (pv 4) (pa_cons (pv 3) pa_nil)))) (pe_lc (own := [("_law_k", 9)]) (g := gName 9) (by rfl) sc_law.nd (pi_range1 (by rfl) T.b_range (pa_cons pe_int pa_nil)) (blkOk_by (own := [("_law_k", 9)]) (N := ["_law_script", "_law_width", "_law_high", "_law_far", "_law_ladder", "_law_limit", "_law_turn", "_law_found", "_law_way", "_law_k"]) (sc := defScope s_law) (by decide +kernel)) (fun _ _ _ _ _ => (pg_name (i := 9) sc_law.nd rfl (Or.inl rfl))) (fun _ _ _ _ _ => pts_nil) (fun _ _ _ _ _ => (pe_cmpR op_eq (pv 9) (pv 8) (nomark _)))) (nomark _))))))))))))))))))), ?_⟩
    refine ⟨_, rfl, a, ns, 0, rfl, hS, _, _, rfl, rfl, (by show (0 : Int) < 18; decide), _, _, rfl, rfl, ?_⟩
    dsimp only [gName]
    refine ⟨_, rfl, a, ns, 1, rfl, hS, _, _, rfl, rfl, (by show (0 : Int) < 20; decide), _, _, rfl, rfl, ?_⟩
    dsimp only [gName]
    refine ⟨_, rfl, a, ns, 2, rfl, hS, _, _, rfl, rfl, ⟨by decide, by decide, by decide⟩, _, _, rfl, rfl, (by show (0 : Int) < 10 ^ Int.toNat 20; decide), ?_⟩
    dsimp only [gName]
    have far0 := Int.emod_nonneg (cellOf ns 2) (show (10 : Int) ^ Int.toNat 20 ≠ 0 by decide)
    show Evl.tCut _ _ _ [nR a, nI (cellOf ns 0 % 18 - 3), nI (cellOf ns 1 % 20 - 3), nI (cellOf ns 2 % 10 ^ Int.toNat 20), none, none, none, none, none, none] _
    revert far0
    generalize cellOf ns 2 % 10 ^ Int.toNat 20 = far
    generalize cellOf ns 0 % 18 - 3 = wd0
    generalize cellOf ns 1 % 20 - 3 = hh0
    intro far0
    have two : ∀ x y : Int, ∃ v : Int, atI [V.int x, V.int y] (cellOf ns 3 / 8 % 2) = some (.int v) := fun x y => by
      rcases (show cellOf ns 3 / 8 % 2 = 0 ∨ cellOf ns 3 / 8 % 2 = 1 by omega) with e | e
      · rw [e]
        exact ⟨x, atI_nat (j := 0) rfl⟩
      · rw [e]
        exact ⟨y, atI_nat (j := 1) rfl⟩
    refine ⟨fun σ H' => Same H H' ∧ ∃ wd : Int, σ = [nR a, nI wd, nI hh0, nI far, none, none, none, none, none, none], ?_, ?_⟩
    · refine ⟨_, rfl, a, ns, 3, rfl, hS, _, _, rfl, rfl, (by show (0 : Int) < 8; decide), rfl, _, rfl, ite2 (fun _ => ?_) (fun _ => ⟨Same.refl _, _, rfl⟩)⟩
      refine ⟨1, rfl, _, rfl, _, _, rfl, rfl, _, rfl, _, _, rfl, rfl, (by show 2 ≤ sizeLine; decide), fun z nz => ?_⟩
      obtain ⟨v, ev⟩ := two (-1 - far) (10 + far)
      exact ⟨_, rfl, a, ns, 3, rfl, (same_upd nz).seq hS, _, _, rfl, rfl, ⟨by decide, by decide⟩, _, _, rfl, rfl, (by show (0 : Int) < 2; decide), z, _, _, _, rfl, rfl, SqL.of upd_same, ev, same_upd nz, v, rfl⟩
    rintro σ H1 ⟨s1, wd, rfl⟩
    have hA1 := s1.seq hS
    refine ⟨fun σ H' => Same H H' ∧ ∃ hh : Int, σ = [nR a, nI wd, nI hh, nI far, none, none, none, none, none, none], ?_, ?_⟩
    · refine ⟨_, rfl, a, ns, 3, rfl, hA1, _, _, rfl, rfl, (by show (0 : Int) < 8; decide), rfl, _, rfl, ite2 (fun _ => ?_) (fun _ => ⟨s1, _, rfl⟩)⟩
      refine ⟨1, rfl, _, rfl, _, _, rfl, rfl, _, rfl, _, _, rfl, rfl, (by show 2 ≤ sizeLine; decide), fun z nz => ?_⟩
      obtain ⟨v, ev⟩ := two (-1 - far) (13 + far)
      exact ⟨_, rfl, a, ns, 3, rfl, (same_upd nz).seq hA1, _, _, rfl, rfl, ⟨by decide, by decide⟩, _, _, rfl, rfl, (by show (0 : Int) < 2; decide), z, _, _, _, rfl, rfl, SqL.of upd_same, ev, s1.trans (same_upd nz), v, rfl⟩
    rintro σ H2 ⟨s2, hh, rfl⟩
    have hA2 := s2.seq hS
    refine Evl.q_when (b := decide (wd < 2) || (decide (wd > 9) || (decide (hh < 1) || decide (hh > 12)))) (Evl.et_or (Evl.et_test (Evl.ev_op (Evl.ev_var rfl) Evl.ev_c Evl.rv_I0)) fun _ => Evl.et_or (Evl.et_test (Evl.ev_op (Evl.ev_var rfl) Evl.ev_c Evl.rv_I0)) fun _ => Evl.et_or (Evl.et_test (Evl.ev_op (Evl.ev_var rfl) Evl.ev_c Evl.rv_I0)) fun _ => Evl.et_test (Evl.ev_op (Evl.ev_var rfl) Evl.ev_c Evl.rv_I0)) (fun hb H3 s3 => ?_) (fun hb H3 s3 => ?_)
    · have bad : wd < 2 ∨ 9 < wd ∨ hh < 1 ∨ 12 < hh := by
        rw [Bool.or_eq_true, Bool.or_eq_true, Bool.or_eq_true, decide_eq_true_iff, decide_eq_true_iff, decide_eq_true_iff, decide_eq_true_iff] at hb
        exact hb
      exact ⟨_, rfl, _, rfl, wd, hh, rfl, bad, fun H4 s4 => ⟨true, rfl, _, rfl, _, rfl, wd, hh, rfl, bad, fun H5 s5 => q H5⟩⟩
    have good : ¬ (wd < 2 ∨ 9 < wd ∨ hh < 1 ∨ 12 < hh) := fun z => by
      have z2 : (decide (wd < 2) || (decide (wd > 9) || (decide (hh < 1) || decide (hh > 12)))) = true := by
        rw [Bool.or_eq_true, Bool.or_eq_true, Bool.or_eq_true, decide_eq_true_iff, decide_eq_true_iff, decide_eq_true_iff, decide_eq_true_iff]
        exact z
      rw [z2] at hb
      cases hb
    have hA3 := (s2.trans s3).seq hS
    obtain ⟨l, rfl⟩ : ∃ l : Nat, hh = (l : Int) := ⟨hh.toNat, by omega⟩
    have pl := pow_ge2 (w := wd) (l := l) (by omega) (by omega)
    have pl12 := pow_le12 (w := wd) (l := l) (by omega) (by omega) (by omega)
    refine ⟨_, rfl, _, rfl, fun p dx np ndx ne => ⟨H3, p, dx, wd, (l : Int), rfl, rfl, np, ndx, ne, fun z => absurd z good, fun l2 el _ _ _ _ H4 F hL s4 out => ⟨rfl, ?_⟩⟩⟩
    have el2 : l2 = l := by omega
    subst el2
    have hA4 := s4.seq hA3
    obtain ⟨dx, fs, hp, hwidth, hhigh, hlimit, hmany, hm⟩ := R.ins hL
    dsimp only [gName]
    refine ⟨_, rfl, (l2 : Int), rfl, by omega, by omega, for_range (lo := 0) (n := l2) (fun i σ H' => H' = H4 ∧ ∃ y, σ = [nR a, nI wd, nI (l2 : Int), nI far, nR p, nI (wd ^ i), y, none, none, none]) ⟨rfl, none, by rw [Int.pow_zero]; rfl⟩ ?_ ?_⟩
    · rintro i σ H' hi ⟨rfl, y, rfl⟩
      have w1 : 2 ≤ wd := by omega
      have w2 : wd ≤ 9 := by omega
      refine ⟨_, rfl, _, rfl, _, _, rfl, rfl, .inr ⟨by omega, by omega⟩, rfl, nI (0 + (i : Int)), ?_⟩
      rw [Int.pow_succ]
      rfl
    rintro σ H5 ⟨rfl, y, rfl⟩
    -- the fields
    refine ⟨_, rfl, p, _, dx, fs, _, rfl, hp, T.cl_Ladder, T.n_Ladder_width, hwidth, _, rfl, p, _, dx, fs, _, rfl, hp, T.cl_Ladder, T.n_Ladder_high, hhigh, _, rfl, p, _, dx, fs, _, rfl, hp, T.cl_Ladder, T.n_Ladder_limit, hlimit, _, rfl, p, _, dx, fs, _, rfl, hp, T.cl_Ladder, T.n_Ladder_many, hmany, (by show 4 ≤ sizeLine; decide), fun c nc => ⟨c, rfl, ⟨_, SqL.of upd_same⟩, ?_⟩⟩
    have ec : (upd H5 c (.lst [.int wd, .int (l2 : Int), .int (wd ^ l2), .int (([] : List Int).length : Int)])) c = some (.lst ([wd, (l2 : Int), wd ^ l2, 0].map V.int)) := upd_same
    have s6 := same_upd (o := .lst [.int wd, .int (l2 : Int), .int (wd ^ l2), .int (([] : List Int).length : Int)]) nc
    revert ec s6
    generalize upd H5 c (.lst [.int wd, .int (l2 : Int), .int (wd ^ l2), .int (([] : List Int).length : Int)]) = H6
    intro ec s6
    refine for_list (K := K) (a := c) (xs := [wd, (l2 : Int), wd ^ l2, 0].map V.int) (fun i σ H' => Same H6 H' ∧ ∃ z, σ = [nR a, nI wd, nI (l2 : Int), nI far, nR p, nI (wd ^ l2), y, z, none, none]) ⟨Same.refl _, none, rfl⟩ (fun i σ H' _ hh => SqL.of (hh.1 _ _ ec)) ?_ ?_
    · rintro i x σ H' hi ⟨sH, z, rfl⟩
      obtain ⟨il, rfl, mx⟩ := int_at hi
      dsimp only [gName]
      exact ⟨_, rfl, _, rfl, true, rfl, iteF ⟨sH, _, rfl⟩⟩
    rintro σ H7 ⟨s7, z, rfl⟩
    have u7 := s6.trans s7
    have hp7 := u7 _ _ hp
    refine ⟨_, rfl, p, _, dx, fs, _, rfl, hp7, T.cl_Ladder, T.n_Ladder_width, hwidth, _, rfl, p, _, dx, fs, _, rfl, hp7, T.cl_Ladder, T.n_Ladder_high, hhigh, _, rfl, p, _, dx, fs, _, rfl, hp7, T.cl_Ladder, T.n_Ladder_limit, hlimit, _, rfl, p, _, dx, fs, _, rfl, hp7, T.cl_Ladder, T.n_Ladder_many, hmany, (by show 4 ≤ sizeLine; decide), fun c2 nc2 => ?_⟩
    refine ⟨_, rfl, _, rfl, _, rfl, (by show 4 ≤ sizeLine; decide), fun c3 nc3 => ?_⟩
    have s8 := same_upd (o := .lst [.int wd, .int (l2 : Int), .int (wd ^ l2), .int (([] : List Int).length : Int)]) nc2
    have s9 := same_upd (o := .lst [.int wd, .int (l2 : Int), .int (wd ^ l2), .int 0]) nc3
    refine neD_ints (ns := [wd, (l2 : Int), wd ^ l2, 0]) (ms := [wd, (l2 : Int), wd ^ l2, 0]) (SqL.of (s9 _ _ upd_same)) (SqL.of upd_same) rfl ⟨false, rfl, iteF ?_⟩
    have u9 := (u7.trans s8).trans s9
    revert u9
    generalize (upd (upd H7 c2 (.lst [.int wd, .int (l2 : Int), .int (wd ^ l2), .int (([] : List Int).length : Int)])) c3 (.lst [.int wd, .int (l2 : Int), .int (wd ^ l2), .int 0])) = H9
    intro u9
    clear s9 s8 nc3 nc2 hp7 u7 s7 s6 ec
    -- no such levels
    refine ⟨_, rfl, 1, rfl, _, rfl, _, _, rfl, rfl, p, wd, l2, [], F, _, rfl, R.same hL u9, (by decide), .inl (by omega), fun H10 s10 => ⟨true, rfl, iteF ?_⟩⟩
    refine ⟨_, rfl, _, rfl, _, _, rfl, rfl, _, rfl, _, _, rfl, rfl, p, wd, l2, [], F, _, rfl, R.same hL (u9.trans s10), (by decide), .inr (by omega), fun H11 s11 => ⟨true, rfl, iteF ?_⟩⟩
    have u11 := (u9.trans s10).trans s11
    have hA11 := u11.seq hA4
    have m0 := Int.emod_nonneg (cellOf ns 4) (show wd ^ l2 ≠ 0 by omega)
    have m1 := Int.emod_lt_of_pos (cellOf ns 4) (show 0 < wd ^ l2 by omega)
    refine ⟨_, rfl, _, rfl, a, ns, 4, rfl, hA11, _, rfl, _, _, rfl, rfl, (by show 0 < wd ^ l2; omega), _, rfl, a, ns, 5, rfl, hA11, _, _, rfl, rfl, ⟨by decide, by decide, by decide⟩, _, _, rfl, rfl, (by show (0 : Int) < 10 ^ Int.toNat 20; decide), _, _, rfl, rfl, ⟨by decide, by decide, by decide⟩, _, _, rfl, rfl, p, wd, l2, F, _, _, rfl, R.same hL u11, m0, m1, fun H12 s12 => ⟨true, rfl, iteF ?_⟩⟩
    have u12 := u11.trans s12
    refine ⟨_, rfl, p, dx, fs, rfl, u12 _ _ hp, hm _ (by decide +kernel), p, wd, l2, [], F, _, 0, rfl, ⟨R.same hL u12, s4.trans u12, out⟩, (by decide), fun z => absurd z (by omega), (fun z => nomatch z), fun _ _ _ H13 G13 F13 r13 us v13 s13 _ _ _ => ?_⟩
    have hA13 : SqL K H13 a (ns.map V.int) := v13.sub.seq (s13.seq hA3)
    refine ⟨_, rfl, a, ns, 3, rfl, hA13, _, _, rfl, rfl, ⟨by decide, by decide⟩, _, _, rfl, rfl, (by show (0 : Int) < 7; decide), ?_⟩
    have w0 := Int.emod_nonneg (cellOf ns 3 / 16) (show (7 : Int) ≠ 0 by decide)
    have w1 := Int.emod_lt_of_pos (cellOf ns 3 / 16) (show (0 : Int) < 7 by decide)
    obtain ⟨k, ek, hk⟩ : ∃ k : Nat, cellOf ns 3 / 16 % 7 = (k : Int) ∧ k < 7 := ⟨(cellOf ns 3 / 16 % 7).toNat, by omega, by omega⟩
    dsimp only [gName]
    rw [ek]
    refine ⟨_, rfl, _, rfl, _, rfl, k, p, wd, l2, F13, far, rfl, v13.lad, hk, far0, fun H14 r14 e14 => ?_⟩
    have bb : ((List.range 7).map fun j => V.bl (decide (j = k))) = Evl.given (7 : Int).toNat (fun _ => true) (fun i => V.bl (decide (V.int (i : Int) = V.int (k : Int)))) := by
      unfold Evl.given
      rw [List.filter_eq_self.mpr fun _ _ => rfl]
      refine List.map_congr_left fun j _ => ?_
      by_cases c : j = k
      · rw [decide_eq_true c, decide_eq_true (by rw [c])]
      · rw [decide_eq_false c, decide_eq_false fun z => c (by have := V.int.inj z; omega)]
    dsimp only
    refine evL_use (xs := (List.range 7).map fun j => V.bl (decide (j = k))) ?_ fun c H15 nc s15 hc => ?_
    · rw [bb]
      exact Evl.el_lcR1 (fun _ => true) _ (Evl.ea_cons Evl.ev_c Evl.ea_nil) ⟨by omega, by omega⟩ (fun _ => rfl) (fun i H3 e3 hi => et_yes) (fun i H3 e3 hi _ => Evl.ev_op (Evl.ev_var rfl) (Evl.ev_var rfl) (Evl.rv_eq rfl))
    · have dh : ∀ {H' : Hp}, DhAll H' ((List.range 7).map fun j => V.bl (decide (j = k))) ((List.range 7).map fun j => PyData.bool (decide (j = k))) := .cons (.bl _) (.cons (.bl _) (.cons (.bl _) (.cons (.bl _) (.cons (.bl _) (.cons (.bl _) (.cons (.bl _) .nil))))))
      exact eqD_same (Dh.lst (s15 _ _ e14) dh).dp (Dh.lst hc dh).dp (shaped_list 0 (fun d hd => by
        obtain ⟨j, _, rfl⟩ := List.mem_map.mp hd
        exact ⟨rfl, Nat.le_refl _⟩) (by decide)) (q _)
def sp_l_near (T : Txt K mg) (_ : Rep K T.c_Ladder) : Sp := fun vs H Q _ => ∃ (o : Option Int) (a : Addr) (zs : List Int), vs = [oV o, .ref a] ∧ SqL K H a (zs.map V.int) ∧ zs.head? = o ∧ ∀ H', Same H H' → Q (.bl true) H'
/-! ### the program's ladder -/
def flds (w : Int) (h n : Nat) (r : Addr) : List (Str × V) := [("width", .int w), ("high", .int (h : Int)), ("limit", .int (w ^ h)), ("many", .int (n : Int)), ("_row", .ref r)]
structure LadP (C : Addr) (H : Hp) (p : Addr) (w : Int) (h : Nat) (xs : List Int) (F : Addr → Prop) : Prop where
  ok : RowOk w h xs
  has : ∃ dx r, H p = some (.ins C dx (flds w h xs.length r)) ∧ H r = some (.lst (xs.map V.int)) ∧ F p ∧ F r ∧ ∀ b, F b → b = p ∨ b = r
theorem flds_free (w : Int) (h n : Nat) (r : Addr) : ∀ m ∈ methods, (flds w h n r).lookup m = none := fun m hm => by
  unfold flds
  have e : ∀ m ∈ methods, m ≠ "width" ∧ m ≠ "high" ∧ m ≠ "limit" ∧ m ≠ "many" ∧ m ≠ "_row" := by decide +kernel
  obtain ⟨e1, e2, e3, e4, e5⟩ := e m hm
  rw [List.lookup_cons, beq_false_of_ne e1, List.lookup_cons, beq_false_of_ne e2, List.lookup_cons, beq_false_of_ne e3, List.lookup_cons, beq_false_of_ne e4, List.lookup_cons, beq_false_of_ne e5]
  rfl
def theRep (T : Txt K mg) : Rep K T.c_Ladder where
  Lad := LadP T.c_Ladder
  ins := fun l => by
    obtain ⟨dx, r, h1, _⟩ := l.has
    exact ⟨dx, _, h1, by rfl, by rfl, by rfl, by rfl, flds_free _ _ _ _⟩
  ok := fun l => l.ok
  stay := fun l s => by
    obtain ⟨dx, r, h1, h2, f1, f2, f3⟩ := l.has
    exact ⟨l.ok, dx, r, s _ _ f1 h1, s _ _ f2 h2, f1, f2, f3⟩
  there := fun l b fb => by
    obtain ⟨dx, r, h1, h2, f1, f2, f3⟩ := l.has
    rcases f3 b fb with e | e
    · exact ⟨_, e ▸ h1⟩
    · exact ⟨_, e ▸ h2⟩
theorem flat_one (n : Nat) (v : V) : (List.replicate n [v]).flatten = List.replicate n v := by
  rw [List.flatten_replicate_singleton]
/-- the ladder with another row -/
theorem LadP.set {C : Addr} {H H' : Hp} {p : Addr} {w : Int} {h : Nat} {xs ys : List Int} {F : Addr → Prop} {dx r : Addr} (o : RowOk w h ys) (hp : H' p = some (.ins C dx (flds w h ys.length r))) (hr : H' r = some (.lst (ys.map V.int))) (f1 : F p) (f2 : F r) (f3 : ∀ b, F b → b = p ∨ b = r) : LadP C H' p w h ys F :=
  ⟨o, dx, r, hp, hr, f1, f2, f3⟩
theorem ok_power (T : Txt K mg) : FnOk P w K mg base CX0 1 T.f_power T.fd_power ["width", "level"] (sp_power K) := by
  refine T.F_power.ok sc_power (fun vs H Q E h => ?_) (fun cdv A outer s H vs Q E hr h => ?_)
  · obtain ⟨wd, l, rfl, _⟩ := h
    rfl
  · obtain ⟨wd, l, rfl, h1, h2, h3, q⟩ := h
    refine ⟨_, (pss_cons (ps_set (i := 2) sc_power.nd rfl (.inl rfl) pe_int)
      (pss_cons (ps_for PassesOwn.never rfl (pi_range1 (by rfl) T.b_range (pa_cons (pv 1) pa_nil)) (pg_name (i := 3) sc_power.nd rfl (.inl rfl)) (pss_one (ps_set (i := 2) sc_power.nd rfl (.inl rfl) (pe_op op_mul (pv 2) (pv 0)))))
      (pss_one (ps_ret (pv 2))))), ?_⟩
    refine ⟨_, rfl, (l : Int), rfl, by omega, by omega, for_range (lo := 0) (n := l) (fun i σ H' => H' = H ∧ ∃ y, σ = [some (.int wd), some (.int (l : Int)), some (.int (wd ^ i)), y]) ⟨rfl, none, by rw [Int.pow_zero]; rfl⟩ ?_ ?_⟩
    · rintro i σ H' hi ⟨rfl, y, rfl⟩
      refine ⟨_, rfl, _, rfl, _, _, rfl, rfl, .inr ⟨by omega, by omega⟩, rfl, nI (0 + (i : Int)), ?_⟩
      rw [Int.pow_succ]
      rfl
    · rintro σ H' ⟨rfl, y, rfl⟩
      exact ⟨_, rfl, q⟩
theorem ok_block (T : Txt K mg) : FnOk P w K mg base CX0 2 T.f_block T.fd_block ["width", "level", "number"] (sp_block K) := by
  have G_power : FnOk P w K mg base CX0 1 T.f_power T.fd_power ["width", "level"] (sp_power K) := ok_power T
  refine T.F_block.ok sc_block (fun vs H Q E h => ?_) (fun cdv A outer s H vs Q E hr h => ?_)
  · obtain ⟨wd, l, n, rfl, _⟩ := h
    rfl
  · obtain ⟨wd, l, n, rfl, h1, h2, h3, q⟩ := h
    refine ⟨_, (pss_one (ps_ret (pe_op op_fdivW (pv 2) (pe_call G_power hr (by rfl) T.g_power T.F_power.kp T.bd_power .nil pass0 (pa_cons (pv 0) (pa_cons (pv 1) pa_nil)))))), ?_⟩
    exact ⟨_, rfl, _, rfl, _, rfl, wd, l, rfl, h1, h2, h3, _, _, rfl, rfl, div_ok h1 h2 h3 n, q⟩
theorem ok_thinned (T : Txt K mg) : FnOk P w K mg base CX0 3 T.f_thinned T.fd_thinned ["width", "level", "row"] (sp_thinned K) := by
  have G_block : FnOk P w K mg base CX0 2 T.f_block T.fd_block ["width", "level", "number"] (sp_block K) := ok_block T
  refine T.F_thinned.ok sc_thinned (fun vs H Q E h => ?_) (fun cdv A outer s H vs Q E hr h => ?_)
  · obtain ⟨wd, l, a, row, rfl, _⟩ := h
    rfl
  · obtain ⟨wd, l, a, row, rfl, h1, h2, h3, hS, hlen, q⟩ := h
    refine ⟨_, (pss_cons (ps_set (i := 3) sc_thinned.nd rfl (.inl rfl) (pe_lst pa_nil))
      (pss_cons (ps_for PassesOwn.never rfl (pi_list (pv 2)) (pg_name (i := 4) sc_thinned.nd rfl (.inl rfl)) (pss_one (ps_if (PW.pt (pw_or (pt_not (pt_truth (pv 3) (by intro _; rfl))) (pw_or1 (pt_cmpR op_ne (pe_call G_block hr (by rfl) T.g_block T.F_block.kp T.bd_block .nil pass0 (pa_cons (pv 0) (pa_cons (pv 1) (pa_cons (pe_ix ix_list (pv 3) (pe_un un_neg pe_int) (fun _ _ => rfl)) pa_nil)))) (pe_call G_block hr (by rfl) T.g_block T.F_block.kp T.bd_block .nil pass0 (pa_cons (pv 0) (pa_cons (pv 1) (pa_cons (pv 4) pa_nil)))) (nomark _))))) (pss_one (ps_expr (pe_bm PySem.F.plainAttrs_list PySem.F.slot_list_append PySem.F.type_list_append mt_append (pv 3) (pa_cons (pv 4) pa_nil)))) pss_nil)))
      (pss_one (ps_ret (pv 3))))), ?_⟩
    refine ⟨Nat.zero_le _, fun o no => ?_⟩
    have sm : Same H (upd H o (.lst [])) := same_upd no
    refine ⟨_, rfl, a, rfl, ⟨_, sm.seq hS⟩, for_list (K := K) (a := a) (xs := row.map V.int) (fun i σ H' => Same H H' ∧ H' o = some (.lst ((thinF (wd ^ l) (fun k => row.getD k 0) i).map V.int)) ∧ ∃ y, σ = [nI wd, nI (l : Int), nR a, nR o, y]) ⟨sm, upd_same, none, rfl⟩ (fun i σ H' _ ⟨s1, _, _⟩ => s1.seq hS) ?_ ?_⟩
    · rintro i x σ H' hi ⟨s1, ho, y, rfl⟩
      have hi2 : i < row.length := by
        have z := (List.getElem?_eq_some_iff.mp hi).1
        rw [List.length_map] at z
        exact z
      obtain ⟨n, en, rfl⟩ : ∃ n, row.getD i 0 = n ∧ x = V.int n := by
        rw [List.getElem?_map, List.getElem?_eq_getElem hi2] at hi
        refine ⟨row[i], ?_, (Option.some.inj hi).symm⟩
        rw [List.getD_eq_getElem?_getD, List.getElem?_eq_getElem hi2]
        rfl
      have app : thinP (wd ^ l) (fun k => row.getD k 0) i = true → (thinF (wd ^ l) (fun k => row.getD k 0) i).map V.int ++ [V.int n] = (thinF (wd ^ l) (fun k => row.getD k 0) (i + 1)).map V.int := fun h => by
        rw [thinF_yes h, List.map_append, en]
        rfl
      have sz : ((thinF (wd ^ l) (fun k => row.getD k 0) i).map V.int).length < sizeLine := by
        rw [List.length_map]
        exact small1000 (Nat.le_trans (thinF_len _ _ _) (by omega))
      cases i with
      | zero =>
        refine ⟨_, rfl, false, .inl ⟨_, SqL.of ho, rfl⟩, iteT (iteT ?_)⟩
        refine ⟨_, rfl, .inl ⟨rfl, _, SqL.of ho⟩, _, rfl, o, _, _, rfl, rfl, ho, sz, ?_⟩
        refine ⟨same_mut s1 no, ?_, _, rfl⟩
        rw [upd_same, app rfl]
      | succ j =>
        obtain ⟨ini, z, e, ez⟩ := thin_last (wd ^ l) (fun k => row.getD k 0) j
        have gl : atI ((thinF (wd ^ l) (fun k => row.getD k 0) (j + 1)).map V.int) (-1) = some (.int z) := by
          rw [e, List.map_append]
          exact atI_last _ _
        refine ⟨_, rfl, true, .inl ⟨_, SqL.of ho, by rw [e]; simp⟩, iteF ?_⟩
        refine ⟨_, rfl, _, rfl, _, rfl, 1, rfl, o, _, -1, _, rfl, rfl, SqL.of ho, gl, wd, l, z, rfl, h1, h2, h3, ?_⟩
        refine ⟨_, rfl, _, rfl, _, rfl, wd, l, n, rfl, h1, h2, h3, rfl, _, rfl, ite2 (fun c => ?_) (fun c => ?_)⟩
        · have t : thinP (wd ^ l) (fun k => row.getD k 0) (j + 1) = true := by
            unfold thinP
            rw [Bool.or_eq_true]
            refine .inr ?_
            rw [Bool.not_eq_true', decide_eq_false_iff_not] at *
            intro z2
            apply c
            show V.int (z / wd ^ l) = V.int (n / wd ^ l)
            rw [ez, ← en]
            exact congrArg V.int z2
          refine ⟨_, rfl, .inl ⟨rfl, _, SqL.of ho⟩, _, rfl, o, _, _, rfl, rfl, ho, sz, ?_⟩
          refine ⟨same_mut s1 no, ?_, _, rfl⟩
          rw [upd_same, app t]
        · have t : ¬ thinP (wd ^ l) (fun k => row.getD k 0) (j + 1) = true := by
            unfold thinP
            rw [Bool.or_eq_true]
            rintro (z2 | z2)
            · exact absurd (of_decide_eq_true z2) (by omega)
            · apply c
              rw [Bool.not_eq_true', decide_eq_false_iff_not] at *
              intro z3
              apply z2
              have z4 := V.int.inj z3
              rw [ez, ← en] at z4
              exact z4
          refine ⟨s1, ?_, _, rfl⟩
          rw [thinF_no t]
          exact ho
    · rintro σ H' ⟨s1, ho, y, rfl⟩
      rw [List.length_map] at ho
      exact ⟨_, rfl, q H' o s1 no ho⟩
theorem ok_tall (T : Txt K mg) : FnOk P w K mg base CX0 3 T.f_tall T.fd_tall ["width", "high", "before", "number"] (sp_tall K) := by
  have G_block : FnOk P w K mg base CX0 2 T.f_block T.fd_block ["width", "level", "number"] (sp_block K) := ok_block T
  refine T.F_tall.ok sc_tall (fun vs H Q E h => ?_) (fun cdv A outer s H vs Q E hr h => ?_)
  · obtain ⟨wd, h, b, n, rfl, _⟩ := h
    rfl
  · obtain ⟨wd, h, b, n, rfl, h1, h2, h3, q⟩ := h
    refine ⟨_, (pss_cons (ps_if (pt_cmpR op_isN (pv 2) pe_non (nomark _)) (pss_one (ps_ret (pe_op op_add (pv 1) pe_int))) pss_nil)
      (pss_cons (ps_set (i := 4) sc_tall.nd rfl (.inl rfl) pe_int)
      (pss_cons (ps_for PassesOwn.never rfl (pi_range1 (by rfl) T.b_range (pa_cons (pe_op op_add (pv 1) pe_int) pa_nil)) (pg_name (i := 5) sc_tall.nd rfl (.inl rfl)) (pss_one (ps_if (pt_cmpR op_ne (pe_call G_block hr (by rfl) T.g_block T.F_block.kp T.bd_block .nil pass0 (pa_cons (pv 0) (pa_cons (pv 5) (pa_cons (pv 2) pa_nil)))) (pe_call G_block hr (by rfl) T.g_block T.F_block.kp T.bd_block .nil pass0 (pa_cons (pv 0) (pa_cons (pv 5) (pa_cons (pv 3) pa_nil)))) (nomark _)) (pss_one (ps_set (i := 4) sc_tall.nd rfl (.inl rfl) (pe_op op_add (pv 4) pe_int))) pss_nil)))
      (pss_one (ps_ret (pv 4)))))), ?_⟩
    cases b with
    | none => exact ⟨_, rfl, rfl, _, rfl, ite2 (fun _ => ⟨_, rfl, _, _, rfl, rfl, q⟩) (fun z => (z (decide_eq_true rfl)).elim)⟩
    | some b =>
      refine ⟨_, rfl, rfl, _, rfl, ite2 (fun z => nomatch (of_decide_eq_true z)) (fun _ => ?_)⟩
      refine ⟨_, rfl, _, _, rfl, rfl, (h : Int) + 1, rfl, by omega, by omega, for_range (lo := 0) (n := ((h : Int) + 1).toNat) (fun i σ H' => H' = H ∧ ∃ y, σ = [nI wd, nI (h : Int), nI b, nI n, nI ((List.range i).countP (apartP wd b n) : Nat), y]) ⟨rfl, none, rfl⟩ ?_ ?_⟩
      · rintro i σ H' hi ⟨rfl, y, rfl⟩
        rw [Int.zero_add]
        refine ⟨_, rfl, _, rfl, _, rfl, wd, i, b, rfl, h1, h2, by omega, ?_⟩
        refine ⟨_, rfl, _, rfl, _, rfl, wd, i, n, rfl, h1, h2, by omega, ?_⟩
        refine ⟨rfl, _, rfl, ite2 (fun z => ?_) (fun z => ?_)⟩
        · have e : apartP wd b n i = true := z
          refine ⟨_, rfl, _, _, rfl, rfl, rfl, nI (i : Int), ?_⟩
          rw [countP_succ, if_pos e, Int.natCast_add]
          rfl
        · have e : ¬ apartP wd b n i = true := z
          refine ⟨rfl, nI (i : Int), ?_⟩
          rw [countP_succ, if_neg e, Nat.add_zero]
          rfl
      · rintro σ H' ⟨rfl, y, rfl⟩
        exact ⟨_, rfl, q⟩
theorem ok_ladder_init (T : Txt K mg) : FnOk P w K mg base (L2.CX P w) 2 T.f_ladder_init T.fd_ladder_init ["self", "width", "high"] (sp_ladder_init T (theRep T)) := by
  have G_power : FnOk P w K mg base CX0 1 T.f_power T.fd_power ["width", "level"] (sp_power K) := ok_power T
  refine T.F_ladder_init.okX sc_ladder_init (fun vs H Q E h => ?_) (fun cdv A outer s H vs Q E hr h => ?_)
  · obtain ⟨H0, p, dx, wd, hh, rfl, _⟩ := h
    rfl
  · obtain ⟨H0, p, dx, wd, hh, rfl, eH, np, ndx, ne, bad, good⟩ := h
    refine ⟨_, (pss_cons (ps_if (PW.pt (pw_or (pt_cmpR op_lt (pv 1) pe_int (nomark _)) (pw_or1 (pt_cmpR op_gt (pv 1) pe_int (nomark _))))) (pss_one (ps_raise rfl (takes_of rfl rfl rfl rfl) (pmk_own PySem.F.excBase_ValueError T.xp_BadSize T.x_BadSize T.kp_BadSize (raises_own T.bp_BadSize T.tp_BadSize) (by rfl)))) pss_nil)
      (pss_cons (ps_if (PW.pt (pw_or (pt_cmpR op_lt (pv 2) pe_int (nomark _)) (pw_or1 (pt_cmpR op_gt (pv 2) pe_int (nomark _))))) (pss_one (ps_raise rfl (takes_of rfl rfl rfl rfl) (pmk_own PySem.F.excBase_ValueError T.xp_BadSize T.x_BadSize T.kp_BadSize (raises_own T.bp_BadSize T.tp_BadSize) (by rfl)))) pss_nil)
      (pss_cons (ps_fld (pv 0) (pv 1) rfl)
      (pss_cons (ps_fld (pv 0) (pv 2) rfl)
      (pss_cons (ps_fld (pv 0) (pe_call G_power hr (by rfl) T.g_power T.F_power.kp T.bd_power .nil pass0 (pa_cons (pv 1) (pa_cons (pv 2) pa_nil))) rfl)
      (pss_cons (ps_fld (pv 0) pe_int rfl)
      (pss_one (ps_fld (pv 0) (pe_lst pa_nil) rfl)))))))), ?_⟩
    subst eH
    have nd : ∀ b u, H0 b = some u → b ≠ p ∧ b ≠ dx := fun b u e => ⟨ne_of_none e np, ne_of_none e ndx⟩
    have sm : ∀ o, Same H0 (upd (upd H0 dx (.own p)) p o) := fun o b u e => by
      rw [upd_ne (nd b u e).1, upd_ne (nd b u e).2]
      exact e
    refine ⟨_, rfl, _, _, rfl, rfl, _, rfl, ite2 (fun c => iteT (bad (.inl (of_decide_eq_true c)) _ (sm _))) (fun c1 => ?_)⟩
    refine ⟨_, rfl, _, _, rfl, rfl, _, rfl, ite2 (fun c => bad (.inr (.inl (of_decide_eq_true c))) _ (sm _)) (fun c2 => ?_)⟩
    refine ⟨_, rfl, _, _, rfl, rfl, _, rfl, ite2 (fun c => iteT (bad (.inr (.inr (.inl (of_decide_eq_true c)))) _ (sm _))) (fun c3 => ?_)⟩
    refine ⟨_, rfl, _, _, rfl, rfl, _, rfl, ite2 (fun c => bad (.inr (.inr (.inr (of_decide_eq_true c)))) _ (sm _)) (fun c4 => ?_)⟩
    have d1 : ¬ wd < 2 := fun z => c1 (decide_eq_true z)
    have d2 : ¬ 9 < wd := fun z => c2 (decide_eq_true z)
    have d3 : ¬ hh < 1 := fun z => c3 (decide_eq_true z)
    have d4 : ¬ 12 < hh := fun z => c4 (decide_eq_true z)
    obtain ⟨h, rfl⟩ : ∃ h : Nat, hh = (h : Int) := ⟨hh.toNat, by omega⟩
    refine ⟨_, rfl, _, rfl, p, _, dx, _, rfl, upd_same, T.cl_Ladder, T.n_Ladder_width, (by show 0 < 1000; decide), ?_⟩
    refine ⟨_, rfl, _, rfl, p, _, dx, _, rfl, upd_same, T.cl_Ladder, T.n_Ladder_high, (by show 1 < 1000; decide), ?_⟩
    refine ⟨_, rfl, _, rfl, wd, h, rfl, by omega, by omega, by omega, _, rfl, p, _, dx, _, rfl, upd_same, T.cl_Ladder, T.n_Ladder_limit, (by show 2 < 1000; decide), ?_⟩
    refine ⟨_, rfl, p, _, dx, _, rfl, upd_same, T.cl_Ladder, T.n_Ladder_many, (by show 3 < 1000; decide), ?_⟩
    refine ⟨Nat.zero_le _, fun r nr => ?_⟩
    rw [upd_upd, upd_upd, upd_upd, upd_upd] at *
    have rp : r ≠ p := fun z => by
      rw [z, upd_same] at nr
      cases nr
    refine ⟨_, rfl, p, _, dx, _, rfl, by rw [upd_ne rp.symm, upd_same], T.cl_Ladder, T.n_Ladder__row, (by show 4 < 1000; decide), ?_⟩
    have nr0 : H0 r = none := by
      cases e : H0 r with
      | none => rfl
      | some o =>
        rw [sm _ _ _ e] at nr
        cases nr
    refine good h rfl (by omega) (by omega) (by omega) (by omega) _ (fun b => b = p ∨ b = r) ⟨⟨by omega, by omega, by omega, by omega, .nil, (fun x hx => nomatch hx), (fun x hx => nomatch hx)⟩, dx, r, upd_same, by rw [upd_ne rp, upd_same]; rfl, .inl rfl, .inr rfl, fun b fb => fb⟩ (fun b u e => ?_) (fun b fb => ?_)
    · rw [upd_ne (nd b u e).1, upd_ne (ne_of_none e nr0)]
      exact sm _ b u e
    · rcases fb with rfl | rfl
      · exact np
      · exact nr0
def sp_ladder_check_number (T : Txt K mg) (R : Rep K T.c_Ladder) : Sp := fun vs H Q E => ∃ (p : Addr) (w : Int) (h : Nat) (xs : List Int) (F : Addr → Prop) (n : Int), vs = [.ref p, .int n] ∧ R.Lad H p w h xs F ∧
  ((n < 0 ∨ w ^ h ≤ n) → E (.ref T.c_OutOfRange) none H) ∧ (0 ≤ n → n < w ^ h → Q .non H)
theorem ok_ladder_check_number (T : Txt K mg) : FnOk P w K mg base (L2.CX P w) 1 T.f_ladder_check_number T.fd_ladder_check_number ["self", "number"] (sp_ladder_check_number T (theRep T)) := by
  refine T.F_ladder_check_number.okX sc_ladder_check_number (fun vs H Q E h => ?_) (fun cdv A outer s H vs Q E hr h => ?_)
  · obtain ⟨p, wd, h, xs, F, n, rfl, _⟩ := h
    rfl
  · obtain ⟨p, wd, h, xs, F, n, rfl, hL, bad, good⟩ := h
    refine ⟨_, (pss_one (ps_if (PW.pt (pw_or (pt_cmpR op_lt (pv 1) pe_int (nomark _)) (pw_or1 (pt_cmpR op_ge (pv 1) (pe_fld (pv 0) rfl) (nomark _))))) (pss_one (ps_raise rfl (takes_of rfl rfl rfl rfl) (pmk_own PySem.F.excBase_ValueError T.xp_OutOfRange T.x_OutOfRange T.kp_OutOfRange (raises_own T.bp_OutOfRange T.tp_OutOfRange) (by rfl)))) pss_nil)), ?_⟩
    obtain ⟨dx, r, hp, hr', f1, f2, f3⟩ := hL.has
    refine ⟨_, rfl, _, _, rfl, rfl, _, rfl, ite2 (fun c => iteT (bad (.inl (of_decide_eq_true c)))) (fun c => ?_)⟩
    refine ⟨_, rfl, _, rfl, p, _, dx, _, _, rfl, hp, T.cl_Ladder, T.n_Ladder_limit, rfl, _, _, rfl, rfl, _, rfl, ite2 (fun c2 => bad (.inr (of_decide_eq_true c2))) (fun c2 => good ?_ ?_)⟩
    · have z : ¬ n < 0 := fun q => c (decide_eq_true q)
      omega
    · have z : ¬ wd ^ h ≤ n := fun q => c2 (decide_eq_true q)
      omega
theorem ok_ladder_has (T : Txt K mg) : FnOk P w K mg base (L2.CX P w) 2 T.f_ladder_has T.fd_ladder_has ["self", "number"] (sp_ladder_has T (theRep T)) := by
  have G_ladder_check_number : FnOk P w K mg base (L2.CX P w) 1 T.f_ladder_check_number T.fd_ladder_check_number ["self", "number"] (sp_ladder_check_number T (theRep T)) := ok_ladder_check_number T
  refine T.F_ladder_has.okX sc_ladder_has (fun vs H Q E h => ?_) (fun cdv A outer s H vs Q E hr h => ?_)
  · obtain ⟨p, wd, h, xs, F, n, rfl, _⟩ := h
    rfl
  · obtain ⟨p, wd, h, xs, F, n, rfl, hL, hlen, bad, good⟩ := h
    refine ⟨_, (pss_cons (ps_expr (pe_meth (pv 0) T.cl_Ladder T.m_ladder_check_number G_ladder_check_number hr T.bd_ladder_check_number .nil (passes_call (takes_of rfl rfl rfl rfl) (fun _ _ _ _ h => h)) (pa_cons (pv 1) pa_nil)))
      (pss_one (ps_ret (pe_cmpR op_in_seq (pv 1) (pe_fld (pv 0) rfl) (by rfl))))), ?_⟩
    obtain ⟨dx, r, hp, hr', f1, f2, f3⟩ := hL.has
    refine ⟨_, rfl, p, dx, _, rfl, hp, rfl, _, rfl, p, wd, h, xs, F, n, rfl, hL, fun c => bad c H (Evl.Ex.refl _), fun a b => ?_⟩
    dsimp only
    refine Evl.s_ret (v := .bl (decide (n ∈ xs))) ?_ (fun H2 s2 => good a b H2 s2)
    exact Evl.ev_op (Evl.ev_var rfl) (ev_fld (Evl.ev_var rfl) hp T.cl_Ladder T.n_Ladder__row rfl) (rv_inI (SqL.of hr'))
def sp_ladder_spot (T : Txt K mg) (R : Rep K T.c_Ladder) : Sp := fun vs H Q _ => ∃ (p : Addr) (w : Int) (h : Nat) (xs : List Int) (F : Addr → Prop) (n : Int), vs = [.ref p, .int n] ∧ R.Lad H p w h xs F ∧ xs.length ≤ 151 ∧
  ∀ H', Same H H' → Q (.int (placeN xs n : Int)) H'
theorem ok_ladder_spot (T : Txt K mg) : FnOk P w K mg base CX0 1 T.f_ladder_spot T.fd_ladder_spot ["self", "number"] (sp_ladder_spot T (theRep T)) := by
  refine T.F_ladder_spot.ok sc_ladder_spot (fun vs H Q E h => ?_) (fun cdv A outer s H vs Q E hr h => ?_)
  · obtain ⟨p, wd, h, xs, F, n, rfl, _⟩ := h
    rfl
  · obtain ⟨p, wd, h, xs, F, n, rfl, hL, hlen, q⟩ := h
    refine ⟨_, (pss_one (ps_ret (pe_callB call_len_seq (by rfl) T.b_len PySem.boot_len (pa_cons (pe_lc (own := [("kept", 2)]) (g := gName 2) (by rfl) sc_ladder_spot.nd (pi_list (pe_fld (pv 0) rfl)) (blkOk_by (own := [("kept", 2)]) (N := ["self", "number", "kept"]) (sc := defScope s_ladder_spot) (by decide +kernel)) (fun _ _ _ _ _ => (pg_name (i := 2) sc_ladder_spot.nd rfl (Or.inl rfl))) (fun _ _ _ _ _ => (pts_one (pt_cmpR op_lt (pv 2) (pv 1) (nomark _)))) (fun _ _ _ _ _ => (pv 2))) pa_nil)))), ?_⟩
    obtain ⟨dx, r, hp, hr', f1, f2, f3⟩ := hL.has
    refine ev_use (v := .int (placeN xs n : Int)) ?_ (fun H2 s2 => q H2 s2)
    refine Evl.ev_is (Evl.ev_lenN (el_fil (fun x => decide (x < n)) (ev_fld (Evl.ev_var rfl) hp T.cl_Ladder T.n_Ladder__row rfl) (SqL.of hr') (by omega) (fun _ => rfl) (fun x _ H1 _ => Evl.et_test (Evl.ev_op (Evl.ev_var rfl) (Evl.ev_var rfl) Evl.rv_I0)) (fun x _ H1 _ _ => Evl.ev_var rfl))) ?_
    rw [List.length_map]
    rfl
def sp_ladder_before (T : Txt K mg) (R : Rep K T.c_Ladder) : Sp := fun vs H Q _ => ∃ (p : Addr) (w : Int) (h : Nat) (xs : List Int) (F : Addr → Prop) (k : Nat), vs = [.ref p, .int (k : Int)] ∧ R.Lad H p w h xs F ∧ k ≤ xs.length ∧ Q (oV (if k = 0 then none else xs[k - 1]?)) H
theorem ok_ladder_before (T : Txt K mg) : FnOk P w K mg base CX0 1 T.f_ladder_before T.fd_ladder_before ["self", "spot"] (sp_ladder_before T (theRep T)) := by
  refine T.F_ladder_before.ok sc_ladder_before (fun vs H Q E h => ?_) (fun cdv A outer s H vs Q E hr h => ?_)
  · obtain ⟨p, wd, h, xs, F, k, rfl, _⟩ := h
    rfl
  · obtain ⟨p, wd, h, xs, F, k, rfl, hL, hk, q⟩ := h
    refine ⟨_, (pss_cons (ps_if (pt_cmpR op_eq (pv 1) pe_int (nomark _)) (pss_one (ps_ret pe_non)) pss_nil)
      (pss_one (ps_ret (pe_ix ix_list (pe_fld (pv 0) rfl) (pe_op op_sub (pv 1) pe_int) (fun _ _ => rfl))))), ?_⟩
    obtain ⟨dx, r, hp, hr', f1, f2, f3⟩ := hL.has
    refine ⟨_, rfl, rfl, _, rfl, ite2 (fun c => ?_) (fun c => ?_)⟩
    · have e : (k : Int) = 0 := V.int.inj (of_decide_eq_true c)
      rw [if_pos (by omega)] at q
      exact q
    · have e : ¬ (k : Int) = 0 := fun z => c (decide_eq_true (congrArg V.int z))
      have lt : k - 1 < xs.length := by omega
      rw [if_neg (by omega), List.getElem?_eq_getElem lt] at q
      refine ⟨_, rfl, p, _, dx, _, _, rfl, hp, T.cl_Ladder, T.n_Ladder__row, rfl, _, rfl, _, _, rfl, rfl, r, _, _, _, rfl, rfl, SqL.of hr', ?_, q⟩
      rw [show (k : Int) - 1 = ((k - 1 : Nat) : Int) by omega]
      refine atI_nat ?_
      rw [List.getElem?_map, List.getElem?_eq_getElem lt]
      rfl
def sp_ladder_at_or_none (T : Txt K mg) (R : Rep K T.c_Ladder) : Sp := fun vs H Q _ => ∃ (p : Addr) (w : Int) (h : Nat) (xs : List Int) (F : Addr → Prop) (k : Nat), vs = [.ref p, .int (k : Int)] ∧ R.Lad H p w h xs F ∧ k ≤ xs.length ∧ Q (oV xs[k]?) H
theorem ok_ladder_at_or_none (T : Txt K mg) : FnOk P w K mg base CX0 1 T.f_ladder_at_or_none T.fd_ladder_at_or_none ["self", "spot"] (sp_ladder_at_or_none T (theRep T)) := by
  refine T.F_ladder_at_or_none.ok sc_ladder_at_or_none (fun vs H Q E h => ?_) (fun cdv A outer s H vs Q E hr h => ?_)
  · obtain ⟨p, wd, h, xs, F, k, rfl, _⟩ := h
    rfl
  · obtain ⟨p, wd, h, xs, F, k, rfl, hL, hk, q⟩ := h
    refine ⟨_, (pss_cons (ps_if (pt_cmpR op_eq (pv 1) (pe_fld (pv 0) rfl) (nomark _)) (pss_one (ps_ret pe_non)) pss_nil)
      (pss_one (ps_ret (pe_ix ix_list (pe_fld (pv 0) rfl) (pv 1) (fun _ _ => rfl))))), ?_⟩
    obtain ⟨dx, r, hp, hr', f1, f2, f3⟩ := hL.has
    refine ⟨_, rfl, _, rfl, p, _, dx, _, _, rfl, hp, T.cl_Ladder, T.n_Ladder_many, rfl, rfl, _, rfl, ite2 (fun c => ?_) (fun c => ?_)⟩
    · have e : (k : Int) = (xs.length : Int) := V.int.inj (of_decide_eq_true c)
      rw [List.getElem?_eq_none (by omega)] at q
      exact q
    · have e : ¬ (k : Int) = (xs.length : Int) := fun z => c (decide_eq_true (congrArg V.int z))
      have lt : k < xs.length := by omega
      rw [List.getElem?_eq_getElem lt] at q
      refine ⟨_, rfl, p, _, dx, _, _, rfl, hp, T.cl_Ladder, T.n_Ladder__row, rfl, _, rfl, r, _, _, _, rfl, rfl, SqL.of hr', atI_nat ?_, q⟩
      rw [List.getElem?_map, List.getElem?_eq_getElem lt]
      rfl
def sp_ladder_heirs (T : Txt K mg) (R : Rep K T.c_Ladder) : Sp := fun vs H Q _ => ∃ (p : Addr) (w : Int) (h : Nat) (xs : List Int) (F : Addr → Prop) (n : Int), vs = [.ref p, .int n] ∧ R.Lad H p w h xs F ∧ xs.length ≤ 151 ∧ n ∈ xs ∧
  ∀ H' r, Same H H' → H r = none → H' r = some (.lst (heirL w h xs n)) → Q (.ref r) H'
theorem ok_ladder_heirs (T : Txt K mg) : FnOk P w K mg base CX0 4 T.f_ladder_heirs T.fd_ladder_heirs ["self", "number"] (sp_ladder_heirs T (theRep T)) := by
  have G_ladder_spot : FnOk P w K mg base CX0 1 T.f_ladder_spot T.fd_ladder_spot ["self", "number"] (sp_ladder_spot T (theRep T)) := ok_ladder_spot T
  have G_tall : FnOk P w K mg base CX0 3 T.f_tall T.fd_tall ["width", "high", "before", "number"] (sp_tall K) := ok_tall T
  have G_ladder_at_or_none : FnOk P w K mg base CX0 1 T.f_ladder_at_or_none T.fd_ladder_at_or_none ["self", "spot"] (sp_ladder_at_or_none T (theRep T)) := ok_ladder_at_or_none T
  have G_ladder_before : FnOk P w K mg base CX0 1 T.f_ladder_before T.fd_ladder_before ["self", "spot"] (sp_ladder_before T (theRep T)) := ok_ladder_before T
  refine T.F_ladder_heirs.ok sc_ladder_heirs (fun vs H Q E h => ?_) (fun cdv A outer s H vs Q E hr h => ?_)
  · obtain ⟨p, wd, h, xs, F, n, rfl, _⟩ := h
    rfl
  · obtain ⟨p, wd, h, xs, F, n, rfl, hL, hlen, hn, q⟩ := h
    refine ⟨_, (pss_cons (ps_set (i := 2) sc_ladder_heirs.nd rfl (.inl rfl) (pe_meth (pv 0) T.cl_Ladder T.m_ladder_spot G_ladder_spot (hr.mono (by decide)) T.bd_ladder_spot .nil pass0 (pa_cons (pv 1) pa_nil)))
      (pss_cons (ps_set (i := 3) sc_ladder_heirs.nd rfl (.inl rfl) (pe_call G_tall hr (by rfl) T.g_tall T.F_tall.kp T.bd_tall .nil pass0 (pa_cons (pe_fld (pv 0) rfl) (pa_cons (pe_fld (pv 0) rfl) (pa_cons (pe_meth (pv 0) T.cl_Ladder T.m_ladder_before G_ladder_before (hr.mono (by decide)) T.bd_ladder_before .nil pass0 (pa_cons (pv 2) pa_nil)) (pa_cons (pv 1) pa_nil))))))
      (pss_cons (ps_set (i := 4) sc_ladder_heirs.nd rfl (.inr rfl) (pe_meth (pv 0) T.cl_Ladder T.m_ladder_at_or_none G_ladder_at_or_none (hr.mono (by decide)) T.bd_ladder_at_or_none .nil pass0 (pa_cons (pe_op op_add (pv 2) pe_int) pa_nil)))
      (pss_cons (ps_if (pt_cmpR op_isN (pv 4) pe_non (nomark _)) (pss_one (ps_ret (pe_op op_rep (pe_lst (pa_cons pe_non pa_nil)) (pv 3)))) pss_nil)
      (pss_cons (ps_set (i := 5) sc_ladder_heirs.nd rfl (.inr rfl) (pe_call G_tall hr (by rfl) T.g_tall T.F_tall.kp T.bd_tall .nil pass0 (pa_cons (pe_fld (pv 0) rfl) (pa_cons (pe_fld (pv 0) rfl) (pa_cons (pv 1) (pa_cons (pv 4) pa_nil))))))
      (pss_one (ps_ret (pe_lc (own := [("level", 6)]) (g := gName 6) (by rfl) sc_ladder_heirs.nd (pi_range1 (by rfl) T.b_range (pa_cons (pv 3) pa_nil)) (blkOk_by (own := [("level", 6)]) (N := ["self", "number", "spot", "levels", "after", "beside", "level"]) (sc := defScope s_ladder_heirs) (by decide +kernel)) (fun _ _ _ _ _ => (pg_name (i := 6) sc_ladder_heirs.nd rfl (Or.inl rfl))) (fun _ _ _ _ _ => pts_nil) (fun _ _ _ _ _ => (pe_ifExp (pt_cmpR op_lt (pv 6) (pv 5) (nomark _)) pe_non (pv 4))))))))))), ?_⟩
    obtain ⟨dx, r, hp, hr', f1, f2, f3⟩ := hL.has
    have ok := hL.ok
    have h12 := ok.h12
    have lt := place_lt ok.rise hn
    refine ⟨_, rfl, p, dx, _, rfl, hp, rfl, _, rfl, p, wd, h, xs, F, n, rfl, hL, hlen, fun H1 s1 => ?_⟩
    have hL1 := (theRep T).same hL s1
    have hp1 := s1 _ _ hp
    refine ⟨_, rfl, p, _, dx, _, _, rfl, hp1, T.cl_Ladder, T.n_Ladder_width, rfl, _, rfl, p, _, dx, _, _, rfl, hp1, T.cl_Ladder, T.n_Ladder_high, rfl, _, rfl, p, dx, _, rfl, hp1, rfl, _, rfl, p, wd, h, xs, F, placeN xs n, rfl, hL1, by omega, _, rfl, wd, h, _, n, rfl, ok.w2, ok.w9, by omega, ?_⟩
    rw [← belowO_at ok.rise n, tallO_cnt]
    refine ⟨_, rfl, p, dx, _, rfl, hp1, rfl, _, rfl, _, _, rfl, rfl, p, wd, h, xs, F, placeN xs n + 1, by rw [Int.natCast_add]; rfl, hL1, by omega, ?_⟩
    rw [← aboveO_at ok.rise hn]
    have cl := cntN_le wd h xs n
    cases ha : aboveO xs n with
    | none =>
      refine ⟨_, rfl, rfl, _, rfl, ite2 (fun _ => ?_) (fun z => (z (decide_eq_true rfl)).elim)⟩
      refine ⟨(by show 1 ≤ sizeLine; decide), fun a na => ⟨_, rfl, a, _, _, rfl, rfl, upd_same, by omega, by omega, ?_, fun b nb => ?_⟩⟩
      · show 1 * _ ≤ sizeLine
        exact Nat.le_of_lt (small1000 (by omega))
      · have nb0 : H1 b = none := Same.free (same_upd na) nb
        refine q _ b ((s1.trans (same_upd na)).trans (same_upd nb)) (Same.free s1 nb0) ?_
        rw [upd_same]
        refine congrArg (fun t => some (HO.lst t)) ?_
        unfold heirL
        have e : (List.range (cntN wd h xs n)).map (fun l => oV (mateO wd xs n l)) = (List.range (cntN wd h xs n)).map fun _ => V.non := List.map_congr_left fun l _ => by rw [mateO_none ha]; rfl
        rw [e, List.map_const', List.length_range, Int.toNat_natCast, flat_one]
    | some g =>
      refine ⟨_, rfl, rfl, _, rfl, ite2 (fun z => nomatch (of_decide_eq_true z)) (fun _ => ?_)⟩
      refine ⟨_, rfl, p, _, dx, _, _, rfl, hp1, T.cl_Ladder, T.n_Ladder_width, rfl, _, rfl, p, _, dx, _, _, rfl, hp1, T.cl_Ladder, T.n_Ladder_high, rfl, _, rfl, _, rfl, wd, h, some n, g, rfl, ok.w2, ok.w9, by omega, ?_⟩
      dsimp only [gName]
      show tRet _ _ [nR p, nI n, nI (placeN xs n : Int), nI (cntN wd h xs n : Int), nI g, nI (tallO wd h (some n) g), none] _
      refine Evl.s_retL (xs := heirL wd h xs n) ?_ fun b H2 nb s2 hb => q H2 b (s1.trans s2) (Same.free s1 nb) hb
      have e : heirL wd h xs n = Evl.given (cntN wd h xs n : Int).toNat (fun _ => true) (fun l => if l < tallN wd h n g then .non else .int g) := by
        unfold Evl.given heirL
        rw [Int.toNat_natCast, List.filter_eq_self.mpr fun _ _ => rfl]
        refine List.map_congr_left fun l hl => ?_
        have := List.mem_range.mp hl
        rw [mateO_some ok.w2 ha (hh := h) (l := l) (by omega)]
        split <;> rfl
      rw [e]
      refine Evl.el_lcR1 (fun _ => true) _ (Evl.ea_cons (Evl.ev_var rfl) Evl.ea_nil) ⟨by omega, by omega⟩ (fun _ => rfl) (fun i H3 e3 hi => et_yes) (fun i H3 e3 hi _ => ?_)
      refine Evl.ev_if (b := decide ((i : Int) < tallO wd h (some n) g)) (Evl.et_test (Evl.ev_op (Evl.ev_var rfl) (Evl.ev_var rfl) Evl.rv_I0)) (fun c => ?_) (fun c => ?_)
      · have c2 : (i : Int) < (tallN wd h n g : Int) := of_decide_eq_true c
        show Evl.Ev _ _ _ (if i < tallN wd h n g then V.non else V.int g)
        rw [if_pos (by omega)]
        exact Evl.ev_c
      · have c2 : ¬ (i : Int) < (tallN wd h n g : Int) := of_decide_eq_false c
        show Evl.Ev _ _ _ (if i < tallN wd h n g then V.non else V.int g)
        rw [if_neg (by omega)]
        exact Evl.ev_var rfl
theorem ok_ladder_put (T : Txt K mg) : FnOk P w K mg base (L2.CX P w) 5 T.f_ladder_put T.fd_ladder_put ["self", "number"] (sp_ladder_put T (theRep T)) := by
  have G_ladder_has : FnOk P w K mg base (L2.CX P w) 2 T.f_ladder_has T.fd_ladder_has ["self", "number"] (sp_ladder_has T (theRep T)) := ok_ladder_has T
  have G_ladder_spot : FnOk P w K mg base CX0 1 T.f_ladder_spot T.fd_ladder_spot ["self", "number"] (sp_ladder_spot T (theRep T)) := ok_ladder_spot T
  have G_ladder_heirs : FnOk P w K mg base CX0 4 T.f_ladder_heirs T.fd_ladder_heirs ["self", "number"] (sp_ladder_heirs T (theRep T)) := ok_ladder_heirs T
  refine T.F_ladder_put.okX sc_ladder_put (fun vs H Q E h => ?_) (fun cdv A outer s H vs Q E hr h => ?_)
  · obtain ⟨p, wd, h, xs, F, G, n, rfl, _⟩ := h
    rfl
  · obtain ⟨p, wd, h, xs, F, G, n, rfl, v, hlen, bad, dup, good⟩ := h
    refine ⟨_, (pss_cons (ps_if (pt_val (pe_meth (pv 0) T.cl_Ladder T.m_ladder_has G_ladder_has (hr.mono (by decide)) T.bd_ladder_has .nil (passes_call (takes_of rfl rfl rfl rfl) (fun _ _ _ _ h => h)) (pa_cons (pv 1) pa_nil))) (pss_one (ps_raise rfl (takes_of rfl rfl rfl rfl) (pmk_own PySem.F.excBase_ValueError T.xp_Present T.x_Present T.kp_Present (raises_own T.bp_Present T.tp_Present) (by rfl)))) pss_nil)
      (pss_cons (ps_expr (pe_bm PySem.F.plainAttrs_list PySem.F.slot_list_insert PySem.F.type_list_insert mt_insert (pe_fld (pv 0) rfl) (pa_cons (pe_meth (pv 0) T.cl_Ladder T.m_ladder_spot G_ladder_spot (hr.mono (by decide)) T.bd_ladder_spot .nil pass0 (pa_cons (pv 1) pa_nil)) (pa_cons (pv 1) pa_nil))))
      (pss_cons (ps_fld (pv 0) (pe_callB call_len_seq (by rfl) T.b_len PySem.boot_len (pa_cons (pe_fld (pv 0) rfl) pa_nil)) rfl)
      (pss_one (ps_ret (pe_lc (own := [("level", 2), ("went", 3)]) (g := gTup K 2 (gCons (gName 2) (gCons (gName 3) gNil))) (by rfl) sc_ladder_put.nd (pi_enum (by rfl) T.b_enumerate (pa_cons (pe_meth (pv 0) T.cl_Ladder T.m_ladder_heirs G_ladder_heirs hr T.bd_ladder_heirs .nil pass0 (pa_cons (pv 1) pa_nil)) pa_nil)) (blkOk_by (own := [("level", 2), ("went", 3)]) (N := ["self", "number", "level", "went"]) (sc := defScope s_ladder_put) (by decide +kernel)) (fun _ _ _ _ _ => (pg_tup rfl (pgs_cons (pg_name (i := 2) sc_ladder_put.nd rfl (Or.inl rfl)) (pgs_cons (pg_name (i := 3) sc_ladder_put.nd rfl (Or.inl rfl)) pgs_nil)))) (fun _ _ _ _ _ => pts_nil) (fun _ _ _ _ _ => (pe_tup (pa_cons (pv 2) (pa_cons (pv 1) (pa_cons (pv 3) pa_nil))))))))))), ?_⟩
    have hL := v.lad
    obtain ⟨dx, r, hp, hr', f1, f2, f3⟩ := hL.has
    have ok := hL.ok
    refine ⟨_, rfl, p, dx, _, rfl, hp, rfl, _, rfl, p, wd, h, xs, F, n, rfl, hL, by omega, bad, fun a b H1 s1 => ?_⟩
    refine ⟨_, rfl, ite2 (fun c => dup (of_decide_eq_true c) H1 s1) (fun c => ?_)⟩
    have nx : n ∉ xs := fun z => c (decide_eq_true z)
    have hL1 := (theRep T).same hL s1
    have hp1 := s1 _ _ hp
    have hr1 := s1 _ _ hr'
    have lx : (xs.map V.int).length = xs.length := List.length_map ..
    refine ⟨_, rfl, p, _, dx, _, _, rfl, hp1, T.cl_Ladder, T.n_Ladder__row, rfl, .inl ⟨rfl, _, SqL.of hr1⟩, _, rfl, p, dx, _, rfl, hp1, rfl, _, rfl, p, wd, h, xs, F, n, rfl, hL1, by omega, fun H2 s2 => ?_⟩
    have hp2 := s2 _ _ hp1
    have hr2 := s2 _ _ hr1
    have pl := placeN_le xs n
    refine ⟨_, rfl, r, _, _, _, rfl, rfl, hr2, by rw [lx]; exact small1000 (by omega), by omega, by omega, ?_⟩
    have er : (xs.map V.int).take (placeN xs n : Int).toNat ++ [V.int n] ++ (xs.map V.int).drop (placeN xs n : Int).toNat = (insR n xs).map V.int := by
      rw [Int.toNat_natCast, ← insR_at ok.rise nx, List.map_append, List.map_append, List.map_take, List.map_drop]
      rfl
    rw [er]
    have pr : p ≠ r := ne_of hp1 hr1 (by intro z; cases z)
    have v2 : View (theRep T) G H2 p wd h xs F := v.grow (s1.trans s2)
    refine ⟨_, rfl, p, _, dx, _, _, rfl, by rw [upd_ne pr]; exact hp2, T.cl_Ladder, T.n_Ladder__row, rfl, r, _, rfl, .inl (SqL.of upd_same), _, rfl, p, _, dx, _, rfl, by rw [upd_ne pr]; exact hp2, T.cl_Ladder, T.n_Ladder_many, (by show 5 < 1000; decide), ?_⟩
    have ef : putF "many" (V.int (((insR n xs).map V.int).length : Int)) (flds wd h xs.length r) = flds wd h (insR n xs).length r := by
      rw [List.length_map]
      rfl
    rw [ef]
    have hp3 : upd (upd H2 r (.lst ((insR n xs).map V.int))) p (.ins T.c_Ladder dx (flds wd h (insR n xs).length r)) p = some (.ins T.c_Ladder dx (flds wd h (insR n xs).length r)) := upd_same
    have hr3 : upd (upd H2 r (.lst ((insR n xs).map V.int))) p (.ins T.c_Ladder dx (flds wd h (insR n xs).length r)) r = some (.lst ((insR n xs).map V.int)) := by rw [upd_ne pr.symm, upd_same]
    have g3 : Same G (upd (upd H2 r (.lst ((insR n xs).map V.int))) p (.ins T.c_Ladder dx (flds wd h (insR n xs).length r))) := fun b u e => by
      rw [upd_ne (ne_of_none e (v.out p f1)), upd_ne (ne_of_none e (v.out r f2))]
      exact v2.sub _ _ e
    revert hp3 hr3 g3
    generalize upd (upd H2 r (.lst ((insR n xs).map V.int))) p (.ins T.c_Ladder dx (flds wd h (insR n xs).length r)) = H3
    intro hp3 hr3 g3
    have hL3 : LadP T.c_Ladder H3 p wd h (insR n xs) F := ⟨ok.ins a b, dx, r, hp3, hr3, f1, f2, f3⟩
    have nin : n ∈ insR n xs := mem_insR.mpr (.inl rfl)
    refine ⟨_, rfl, p, dx, _, rfl, hp3, rfl, _, rfl, p, wd, h, insR n xs, F, n, rfl, hL3, by rw [insR_len nx]; omega, nin, fun H4 y s4 ny hy => ?_⟩
    have cl := cntN_le wd h (insR n xs) n
    have h12 := ok.h12
    refine ⟨y, _, rfl, SqL.of hy, fun D nD => ?_⟩
    have thr : ∀ b, F b → ∃ o, H4 b = some o := fun b fb => (theRep T).there ((theRep T).same hL3 s4) b fb
    refine lc_enumL (K := K) (xs := heirL wd h (insR n xs) n) (fun i H' => ∃ G1 us, Made G H4 G1 H' D F us ((List.range i).map fun l => dCh l (some n) (mateO wd xs n l)) ∧ us.length = i) ⟨G, [], ⟨Evl.Ex.refl _, (g3.trans s4).trans (same_upd nD), same_upd nD, v.out, thr, Same.free (g3.trans s4) nD, nD, upd_same, .nil⟩, rfl⟩ (fun i H' hi => ?_) (fun i x T1 H' hx hi nT => ?_) (fun H' hi => ?_)
    · obtain ⟨G1, us, m, _⟩ := hi
      exact SqL.of (m.hc _ _ hy)
    · obtain ⟨G1, us, m, ul⟩ := hi
      have ex := heirL_at hx
      rw [insR_mate] at ex
      subst ex
      have hi2 : i < cntN wd h (insR n xs) n := by
        have := (List.getElem?_eq_some_iff.mp hx).1
        rw [heirL_len] at this
        exact this
      refine ⟨T1, _, rfl, SqT.of upd_same, rfl, _, _, rfl, _, _, rfl, rfl, rfl, ?_⟩
      dsimp only [tYes]
      rw [if_pos rfl]
      refine ⟨_, rfl, _, rfl, _, rfl, (by show 3 ≤ sizeLine; decide), fun t nt => ⟨us, ?_, small1000 (by omega), ?_⟩⟩
      · have Dt : D ≠ t := fun e => by
          subst e
          have z : upd H' T1 (.tup [.int (i : Int), oV (mateO wd xs n i)]) D = some (.lst us) := by rw [upd_ne (ne_of_none m.eD nT)]; exact m.eD
          rw [z] at nt
          cases nt
        rw [upd_ne Dt, upd_ne (ne_of_none m.eD nT)]
        exact m.eD
      · refine ⟨upd G1 t (.tup [.int (i : Int), .int n, oV (mateO wd xs n i)]), us ++ [.ref t], ?_, by rw [List.length_append, ul]; rfl⟩
        rw [List.range_succ, List.map_append]
        exact m.step nT nt fun G2 => dhAll_ch i (some n) (mateO wd xs n i)
    · obtain ⟨G1, us, m, ul⟩ := hi
      rw [heirL_len, insR_cnt, ← chPut_cnt ok.w2] at m
      have gn : Same G1 (upd G1 D (.lst us)) := same_upd m.gD
      have hL5 : (theRep T).Lad H' p wd h (insR n xs) F := (theRep T).same ((theRep T).same hL3 s4) m.hc
      refine good a b nx H' (upd G1 D (.lst us)) F D us ⟨hL5, fun c u e => ?_, fun c fc => ?_⟩ (m.g1.trans gn) (Same.free m.g1 m.gD) upd_same (m.all.same gn)
      · by_cases hc : c = D
        · subst hc
          rw [upd_same] at e
          rw [← e]
          exact m.eD
        · rw [upd_ne hc] at e
          exact m.sub _ _ e
      · have hc : c ≠ D := fun z => by
          obtain ⟨o, e⟩ := m.there c fc
          rw [z, m.nD] at e
          cases e
        rw [upd_ne hc]
        exact m.out c fc
theorem ok_ladder_take (T : Txt K mg) : FnOk P w K mg base (L2.CX P w) 5 T.f_ladder_take T.fd_ladder_take ["self", "number"] (sp_ladder_take T (theRep T)) := by
  have G_ladder_heirs : FnOk P w K mg base CX0 4 T.f_ladder_heirs T.fd_ladder_heirs ["self", "number"] (sp_ladder_heirs T (theRep T)) := ok_ladder_heirs T
  have G_ladder_has : FnOk P w K mg base (L2.CX P w) 2 T.f_ladder_has T.fd_ladder_has ["self", "number"] (sp_ladder_has T (theRep T)) := ok_ladder_has T
  refine T.F_ladder_take.okX sc_ladder_take (fun vs H Q E h => ?_) (fun cdv A outer s H vs Q E hr h => ?_)
  · obtain ⟨p, wd, h, xs, F, G, n, rfl, _⟩ := h
    rfl
  · obtain ⟨p, wd, h, xs, F, G, n, rfl, v, hlen, bad, miss, good⟩ := h
    refine ⟨_, (pss_cons (ps_if (pt_not (pt_val (pe_meth (pv 0) T.cl_Ladder T.m_ladder_has G_ladder_has (hr.mono (by decide)) T.bd_ladder_has .nil (passes_call (takes_of rfl rfl rfl rfl) (fun _ _ _ _ h => h)) (pa_cons (pv 1) pa_nil)))) (pss_one (ps_raise rfl (takes_of rfl rfl rfl rfl) (pmk_own PySem.F.excBase_ValueError T.xp_Missing T.x_Missing T.kp_Missing (raises_own T.bp_Missing T.tp_Missing) (by rfl)))) pss_nil)
      (pss_cons (ps_set (i := 2) sc_ladder_take.nd rfl (.inl rfl) (pe_meth (pv 0) T.cl_Ladder T.m_ladder_heirs G_ladder_heirs hr T.bd_ladder_heirs .nil pass0 (pa_cons (pv 1) pa_nil)))
      (pss_cons (ps_expr (pe_bm PySem.F.plainAttrs_list PySem.F.slot_list_remove PySem.F.type_list_remove mt_remove (pe_fld (pv 0) rfl) (pa_cons (pv 1) pa_nil)))
      (pss_cons (ps_fld (pv 0) (pe_callB call_len_seq (by rfl) T.b_len PySem.boot_len (pa_cons (pe_fld (pv 0) rfl) pa_nil)) rfl)
      (pss_one (ps_ret (pe_lc (own := [("level", 3), ("came", 4)]) (g := gTup K 2 (gCons (gName 3) (gCons (gName 4) gNil))) (by rfl) sc_ladder_take.nd (pi_enum (by rfl) T.b_enumerate (pa_cons (pv 2) pa_nil)) (blkOk_by (own := [("level", 3), ("came", 4)]) (N := ["self", "number", "heirs", "level", "came"]) (sc := defScope s_ladder_take) (by decide +kernel)) (fun _ _ _ _ _ => (pg_tup rfl (pgs_cons (pg_name (i := 3) sc_ladder_take.nd rfl (Or.inl rfl)) (pgs_cons (pg_name (i := 4) sc_ladder_take.nd rfl (Or.inl rfl)) pgs_nil)))) (fun _ _ _ _ _ => pts_nil) (fun _ _ _ _ _ => (pe_tup (pa_cons (pv 3) (pa_cons (pv 4) (pa_cons (pv 1) pa_nil)))))))))))), ?_⟩
    have hL := v.lad
    obtain ⟨dx, r, hp, hr', f1, f2, f3⟩ := hL.has
    have ok := hL.ok
    refine ⟨_, rfl, p, dx, _, rfl, hp, rfl, _, rfl, p, wd, h, xs, F, n, rfl, hL, by omega, bad, fun a b H1 s1 => ?_⟩
    refine ⟨_, rfl, ?_⟩
    by_cases nx : n ∈ xs
    · rw [decide_eq_true nx]
      refine iteF ?_
      have hL1 := (theRep T).same hL s1
      have hp1 := s1 _ _ hp
      refine ⟨_, rfl, p, dx, _, rfl, hp1, rfl, _, rfl, p, wd, h, xs, F, n, rfl, hL1, by omega, nx, fun H2 y s2 ny hy => ?_⟩
      have hp2 := s2 _ _ hp1
      have hr2 := s2 _ _ (s1 _ _ hr')
      have lt := place_lt ok.rise nx
      have pr : p ≠ r := ne_of hp hr' (by intro z; cases z)
      have yr : y ≠ r := (ne_of_none (s1 _ _ hr') ny).symm
      have yp : y ≠ p := (ne_of_none hp1 ny).symm
      refine ⟨_, rfl, p, _, dx, _, _, rfl, hp2, T.cl_Ladder, T.n_Ladder__row, rfl, .inl ⟨rfl, _, SqL.of hr2⟩, _, rfl, r, xs, n, placeN xs n, rfl, rfl, hr2, at_place ok.rise nx, fun m hm e => ?_, ?_⟩
      · have m1 : m < xs.length := by omega
        have := rise_getD ok.rise hm lt
        rw [getD_eq m1, getD_eq lt] at this
        have e1 := at_place ok.rise nx
        rw [List.getElem?_eq_getElem lt] at e1
        rw [List.getElem?_eq_getElem m1] at e
        have e1 := Option.some.inj e1
        have e := Option.some.inj e
        omega
      rw [remR_at ok.rise nx]
      have v2 : View (theRep T) G H2 p wd h xs F := v.grow (s1.trans s2)
      refine ⟨_, rfl, p, _, dx, _, _, rfl, by rw [upd_ne pr]; exact hp2, T.cl_Ladder, T.n_Ladder__row, rfl, r, _, rfl, .inl (SqL.of upd_same), _, rfl, p, _, dx, _, rfl, by rw [upd_ne pr]; exact hp2, T.cl_Ladder, T.n_Ladder_many, (by show 5 < 1000; decide), ?_⟩
      have ef : putF "many" (V.int (((remR n xs).map V.int).length : Int)) (flds wd h xs.length r) = flds wd h (remR n xs).length r := by
        rw [List.length_map]
        rfl
      rw [ef]
      have hp3 : upd (upd H2 r (.lst ((remR n xs).map V.int))) p (.ins T.c_Ladder dx (flds wd h (remR n xs).length r)) p = some (.ins T.c_Ladder dx (flds wd h (remR n xs).length r)) := upd_same
      have hr3 : upd (upd H2 r (.lst ((remR n xs).map V.int))) p (.ins T.c_Ladder dx (flds wd h (remR n xs).length r)) r = some (.lst ((remR n xs).map V.int)) := by rw [upd_ne pr.symm, upd_same]
      have hy3 : upd (upd H2 r (.lst ((remR n xs).map V.int))) p (.ins T.c_Ladder dx (flds wd h (remR n xs).length r)) y = some (.lst (heirL wd h xs n)) := by
        rw [upd_ne yp, upd_ne yr]
        exact hy
      have g3 : Same G (upd (upd H2 r (.lst ((remR n xs).map V.int))) p (.ins T.c_Ladder dx (flds wd h (remR n xs).length r))) := fun b u e => by
        rw [upd_ne (ne_of_none e (v.out p f1)), upd_ne (ne_of_none e (v.out r f2))]
        exact v2.sub _ _ e
      revert hp3 hr3 g3 hy3
      generalize upd (upd H2 r (.lst ((remR n xs).map V.int))) p (.ins T.c_Ladder dx (flds wd h (remR n xs).length r)) = H4
      intro hp3 hr3 hy4 g3
      have hL3 : LadP T.c_Ladder H4 p wd h (remR n xs) F := ⟨ok.rem, dx, r, hp3, hr3, f1, f2, f3⟩
      have cl := cntN_le wd h xs n
      have h12 := ok.h12
      refine ⟨_, rfl, y, _, rfl, SqL.of hy4, fun D nD => ?_⟩
      have thr : ∀ b, F b → ∃ o, H4 b = some o := fun b fb => (theRep T).there hL3 b fb
      refine lc_enumL (K := K) (xs := heirL wd h xs n) (fun i H' => ∃ G1 us, Made G H4 G1 H' D F us ((List.range i).map fun l => dCh l (mateO wd xs n l) (some n)) ∧ us.length = i) ⟨G, [], ⟨Evl.Ex.refl _, g3.trans (same_upd nD), same_upd nD, v.out, thr, Same.free g3 nD, nD, upd_same, .nil⟩, rfl⟩ (fun i H' hi => ?_) (fun i x T1 H' hx hi nT => ?_) (fun H' hi => ?_)
      · obtain ⟨G1, us, m, _⟩ := hi
        exact SqL.of (m.hc _ _ hy4)
      · obtain ⟨G1, us, m, ul⟩ := hi
        have ex := heirL_at hx
        subst ex
        have hi2 : i < cntN wd h xs n := by
          have := (List.getElem?_eq_some_iff.mp hx).1
          rw [heirL_len] at this
          exact this
        refine ⟨T1, _, rfl, SqT.of upd_same, rfl, _, _, rfl, _, _, rfl, rfl, rfl, ?_⟩
        dsimp only [tYes]
        rw [if_pos rfl]
        refine ⟨_, rfl, _, rfl, _, rfl, (by show 3 ≤ sizeLine; decide), fun t nt => ⟨us, ?_, small1000 (by omega), ?_⟩⟩
        · have Dt : D ≠ t := fun e => by
            subst e
            have z : upd H' T1 (.tup [.int (i : Int), oV (mateO wd xs n i)]) D = some (.lst us) := by rw [upd_ne (ne_of_none m.eD nT)]; exact m.eD
            rw [z] at nt
            cases nt
          rw [upd_ne Dt, upd_ne (ne_of_none m.eD nT)]
          exact m.eD
        · refine ⟨upd G1 t (.tup [.int (i : Int), oV (mateO wd xs n i), .int n]), us ++ [.ref t], ?_, by rw [List.length_append, ul]; rfl⟩
          rw [List.range_succ, List.map_append]
          exact m.step nT nt fun G2 => dhAll_ch i (mateO wd xs n i) (some n)
      · obtain ⟨G1, us, m, ul⟩ := hi
        rw [heirL_len, ← chTake_cnt ok.w2] at m
        have gn : Same G1 (upd G1 D (.lst us)) := same_upd m.gD
        have hL5 : (theRep T).Lad H' p wd h (remR n xs) F := (theRep T).same hL3 m.hc
        refine good nx H' (upd G1 D (.lst us)) F D us ⟨hL5, fun c u e => ?_, fun c fc => ?_⟩ (m.g1.trans gn) (Same.free m.g1 m.gD) upd_same (m.all.same gn)
        · by_cases hc : c = D
          · subst hc
            rw [upd_same] at e
            rw [← e]
            exact m.eD
          · rw [upd_ne hc] at e
            exact m.sub _ _ e
        · have hc : c ≠ D := fun z => by
            obtain ⟨o, e⟩ := m.there c fc
            rw [z, m.nD] at e
            cases e
          rw [upd_ne hc]
          exact m.out c fc
    · rw [decide_eq_false nx]
      exact iteT (miss a b nx H1 s1)
theorem ok_ladder_row (T : Txt K mg) : FnOk P w K mg base CX0 1 T.f_ladder_row T.fd_ladder_row ["self"] (sp_ladder_row T (theRep T)) := by
  refine T.F_ladder_row.ok sc_ladder_row (fun vs H Q E h => ?_) (fun cdv A outer s H vs Q E hr h => ?_)
  · obtain ⟨p, wd, h, xs, F, rfl, _⟩ := h
    rfl
  · obtain ⟨p, wd, h, xs, F, rfl, hL, hlen, q⟩ := h
    refine ⟨_, (pss_one (ps_ret (pe_callTy call_list_of (by rfl) T.b_list (by decide +kernel) (pa_cons (pe_fld (pv 0) rfl) pa_nil)))), ?_⟩
    obtain ⟨dx, r, hp, hr', f1, f2, f3⟩ := hL.has
    exact ⟨_, rfl, p, _, dx, _, _, rfl, hp, T.cl_Ladder, T.n_Ladder__row, rfl, r, _, rfl, .inl (SqL.of hr'), fun b nb => q _ b (same_upd nb) nb upd_same⟩
def sp_ladder_check_level (T : Txt K mg) (R : Rep K T.c_Ladder) : Sp := fun vs H Q E => ∃ (p : Addr) (w : Int) (h : Nat) (xs : List Int) (F : Addr → Prop) (n : Int), vs = [.ref p, .int n] ∧ R.Lad H p w h xs F ∧
  ((n < 0 ∨ (h : Int) < n) → E (.ref T.c_NoLevel) none H) ∧ (0 ≤ n → n ≤ (h : Int) → Q .non H)
theorem ok_ladder_check_level (T : Txt K mg) : FnOk P w K mg base (L2.CX P w) 1 T.f_ladder_check_level T.fd_ladder_check_level ["self", "level"] (sp_ladder_check_level T (theRep T)) := by
  refine T.F_ladder_check_level.okX sc_ladder_check_level (fun vs H Q E h => ?_) (fun cdv A outer s H vs Q E hr h => ?_)
  · obtain ⟨p, wd, h, xs, F, n, rfl, _⟩ := h
    rfl
  · obtain ⟨p, wd, h, xs, F, n, rfl, hL, bad, good⟩ := h
    refine ⟨_, (pss_one (ps_if (PW.pt (pw_or (pt_cmpR op_lt (pv 1) pe_int (nomark _)) (pw_or1 (pt_cmpR op_gt (pv 1) (pe_fld (pv 0) rfl) (nomark _))))) (pss_one (ps_raise rfl (takes_of rfl rfl rfl rfl) (pmk_own PySem.F.excBase_ValueError T.xp_NoLevel T.x_NoLevel T.kp_NoLevel (raises_own T.bp_NoLevel T.tp_NoLevel) (by rfl)))) pss_nil)), ?_⟩
    obtain ⟨dx, r, hp, hr', f1, f2, f3⟩ := hL.has
    refine ⟨_, rfl, _, _, rfl, rfl, _, rfl, ite2 (fun c => iteT (bad (.inl (of_decide_eq_true c)))) (fun c => ?_)⟩
    refine ⟨_, rfl, _, rfl, p, _, dx, _, _, rfl, hp, T.cl_Ladder, T.n_Ladder_high, rfl, _, _, rfl, rfl, _, rfl, ite2 (fun c2 => bad (.inr (of_decide_eq_true c2))) (fun c2 => good ?_ ?_)⟩
    · have z : ¬ n < 0 := fun q => c (decide_eq_true q)
      omega
    · have z : ¬ (h : Int) < n := fun q => c2 (decide_eq_true q)
      omega
theorem ok_ladder_level (T : Txt K mg) : FnOk P w K mg base (L2.CX P w) 4 T.f_ladder_level T.fd_ladder_level ["self", "level"] (sp_ladder_level T (theRep T)) := by
  have G_ladder_check_level : FnOk P w K mg base (L2.CX P w) 1 T.f_ladder_check_level T.fd_ladder_check_level ["self", "level"] (sp_ladder_check_level T (theRep T)) := ok_ladder_check_level T
  have G_thinned : FnOk P w K mg base CX0 3 T.f_thinned T.fd_thinned ["width", "level", "row"] (sp_thinned K) := ok_thinned T
  refine T.F_ladder_level.okX sc_ladder_level (fun vs H Q E h => ?_) (fun cdv A outer s H vs Q E hr h => ?_)
  · obtain ⟨p, wd, h, xs, F, L, rfl, _⟩ := h
    rfl
  · obtain ⟨p, wd, h, xs, F, L, rfl, hL, hlen, bad, good⟩ := h
    refine ⟨_, (pss_cons (ps_expr (pe_meth (pv 0) T.cl_Ladder T.m_ladder_check_level G_ladder_check_level (hr.mono (by decide)) T.bd_ladder_check_level .nil (passes_call (takes_of rfl rfl rfl rfl) (fun _ _ _ _ h => h)) (pa_cons (pv 1) pa_nil)))
      (pss_one (ps_ret (pe_call G_thinned hr (by rfl) T.g_thinned T.F_thinned.kp T.bd_thinned .nil pass0 (pa_cons (pe_fld (pv 0) rfl) (pa_cons (pv 1) (pa_cons (pe_fld (pv 0) rfl) pa_nil))))))), ?_⟩
    obtain ⟨dx, r, hp, hr', f1, f2, f3⟩ := hL.has
    have ok := hL.ok
    refine ⟨_, rfl, p, dx, _, rfl, hp, rfl, _, rfl, p, wd, h, xs, F, L, rfl, hL, fun c => bad c H (Evl.Ex.refl _), fun a b => ?_⟩
    obtain ⟨l, rfl⟩ : ∃ l : Nat, L = (l : Int) := ⟨L.toNat, by omega⟩
    have h12 := ok.h12
    refine ⟨_, rfl, p, _, dx, _, _, rfl, hp, T.cl_Ladder, T.n_Ladder_width, rfl, _, rfl, _, rfl, p, _, dx, _, _, rfl, hp, T.cl_Ladder, T.n_Ladder__row, rfl, wd, l, r, xs, rfl, ok.w2, ok.w9, by omega, SqL.of hr', by omega, fun H' o s1 no ho => ?_⟩
    exact good l rfl (by omega) H' o s1 no ho
def sp_ladder_begin (T : Txt K mg) (R : Rep K T.c_Ladder) : Sp := fun vs H Q _ => ∃ (p : Addr) (w : Int) (h : Nat) (xs : List Int) (F : Addr → Prop) (l : Nat) (n : Int), vs = [.ref p, .int (l : Int), .int n] ∧ R.Lad H p w h xs F ∧ l ≤ h ∧ Q (.int (beginN w l n)) H
theorem ok_ladder_begin (T : Txt K mg) : FnOk P w K mg base CX0 3 T.f_ladder_begin T.fd_ladder_begin ["self", "level", "number"] (sp_ladder_begin T (theRep T)) := by
  have G_block : FnOk P w K mg base CX0 2 T.f_block T.fd_block ["width", "level", "number"] (sp_block K) := ok_block T
  have G_power : FnOk P w K mg base CX0 1 T.f_power T.fd_power ["width", "level"] (sp_power K) := ok_power T
  refine T.F_ladder_begin.ok sc_ladder_begin (fun vs H Q E h => ?_) (fun cdv A outer s H vs Q E hr h => ?_)
  · obtain ⟨p, wd, h, xs, F, l, n, rfl, _⟩ := h
    rfl
  · obtain ⟨p, wd, h, xs, F, l, n, rfl, hL, hl, q⟩ := h
    refine ⟨_, (pss_one (ps_ret (pe_op op_mul (pe_call G_block hr (by rfl) T.g_block T.F_block.kp T.bd_block .nil pass0 (pa_cons (pe_fld (pv 0) rfl) (pa_cons (pv 1) (pa_cons (pv 2) pa_nil)))) (pe_call G_power (hr.mono (by decide)) (by rfl) T.g_power T.F_power.kp T.bd_power .nil pass0 (pa_cons (pe_fld (pv 0) rfl) (pa_cons (pv 1) pa_nil)))))), ?_⟩
    obtain ⟨dx, r, hp, hr', f1, f2, f3⟩ := hL.has
    have ok := hL.ok
    have h12 := ok.h12
    have p0 := pow_pos' ok.w2 l
    have p1 := pow_le12 ok.w2 ok.w9 (show l ≤ 12 by omega)
    exact ⟨_, rfl, p, _, dx, _, _, rfl, hp, T.cl_Ladder, T.n_Ladder_width, rfl, _, rfl, _, rfl, wd, l, n, rfl, ok.w2, ok.w9, by omega, _, rfl, p, _, dx, _, _, rfl, hp, T.cl_Ladder, T.n_Ladder_width, rfl, _, rfl, wd, l, rfl, ok.w2, ok.w9, by omega, _, _, rfl, rfl, .inr ⟨by omega, by omega⟩, q⟩
def sp_ladder_reach (T : Txt K mg) (R : Rep K T.c_Ladder) : Sp := fun vs H Q _ => ∃ (p : Addr) (w : Int) (h : Nat) (xs : List Int) (F : Addr → Prop) (l k : Nat), vs = [.ref p, .int (l : Int), .int (k : Int)] ∧ R.Lad H p w h xs F ∧ xs.length ≤ 150 ∧ l ≤ h ∧ k < xs.length ∧ ∀ H', Same H H' → Q (.int (reachN w l xs k : Int)) H'
theorem ok_ladder_reach (T : Txt K mg) : FnOk P w K mg base CX0 4 T.f_ladder_reach T.fd_ladder_reach ["self", "level", "spot"] (sp_ladder_reach T (theRep T)) := by
  have G_ladder_begin : FnOk P w K mg base CX0 3 T.f_ladder_begin T.fd_ladder_begin ["self", "level", "number"] (sp_ladder_begin T (theRep T)) := ok_ladder_begin T
  have G_ladder_spot : FnOk P w K mg base CX0 1 T.f_ladder_spot T.fd_ladder_spot ["self", "number"] (sp_ladder_spot T (theRep T)) := ok_ladder_spot T
  have G_power : FnOk P w K mg base CX0 1 T.f_power T.fd_power ["width", "level"] (sp_power K) := ok_power T
  refine T.F_ladder_reach.ok sc_ladder_reach (fun vs H Q E h => ?_) (fun cdv A outer s H vs Q E hr h => ?_)
  · obtain ⟨p, wd, h, xs, F, l, k, rfl, _⟩ := h
    rfl
  · obtain ⟨p, wd, h, xs, F, l, k, rfl, hL, hlen, hl, hk, q⟩ := h
    refine ⟨_, (pss_cons (ps_set (i := 3) sc_ladder_reach.nd rfl (.inl rfl) (pe_meth (pv 0) T.cl_Ladder T.m_ladder_begin G_ladder_begin hr T.bd_ladder_begin .nil pass0 (pa_cons (pv 1) (pa_cons (pe_ix ix_list (pe_fld (pv 0) rfl) (pv 2) (fun _ _ => rfl)) pa_nil))))
      (pss_one (ps_ret (pe_meth (pv 0) T.cl_Ladder T.m_ladder_spot G_ladder_spot (hr.mono (by decide)) T.bd_ladder_spot .nil pass0 (pa_cons (pe_op op_add (pv 3) (pe_call G_power (hr.mono (by decide)) (by rfl) T.g_power T.F_power.kp T.bd_power .nil pass0 (pa_cons (pe_fld (pv 0) rfl) (pa_cons (pv 1) pa_nil)))) pa_nil))))), ?_⟩
    obtain ⟨dx, r, hp, hr', f1, f2, f3⟩ := hL.has
    have ok := hL.ok
    have h12 := ok.h12
    refine ⟨_, rfl, p, dx, _, rfl, hp, rfl, _, rfl, _, rfl, p, _, dx, _, _, rfl, hp, T.cl_Ladder, T.n_Ladder__row, rfl, _, rfl, r, _, _, _, rfl, rfl, SqL.of hr', atI_nat (map_at hk), p, wd, h, xs, F, l, _, rfl, hL, hl, ?_⟩
    refine ⟨_, rfl, p, dx, _, rfl, hp, rfl, _, rfl, _, rfl, p, _, dx, _, _, rfl, hp, T.cl_Ladder, T.n_Ladder_width, rfl, _, rfl, wd, l, rfl, ok.w2, ok.w9, by omega, _, _, rfl, rfl, p, wd, h, xs, F, _, rfl, hL, by omega, fun H' s1 => q H' s1⟩
theorem ok_ladder_ahead (T : Txt K mg) : FnOk P w K mg base (L2.CX P w) 5 T.f_ladder_ahead T.fd_ladder_ahead ["self", "level", "number"] (sp_ladder_ahead T (theRep T)) := by
  have G_ladder_check_level : FnOk P w K mg base (L2.CX P w) 1 T.f_ladder_check_level T.fd_ladder_check_level ["self", "level"] (sp_ladder_check_level T (theRep T)) := ok_ladder_check_level T
  have G_ladder_begin : FnOk P w K mg base CX0 3 T.f_ladder_begin T.fd_ladder_begin ["self", "level", "number"] (sp_ladder_begin T (theRep T)) := ok_ladder_begin T
  have G_ladder_spot : FnOk P w K mg base CX0 1 T.f_ladder_spot T.fd_ladder_spot ["self", "number"] (sp_ladder_spot T (theRep T)) := ok_ladder_spot T
  have G_ladder_reach : FnOk P w K mg base CX0 4 T.f_ladder_reach T.fd_ladder_reach ["self", "level", "spot"] (sp_ladder_reach T (theRep T)) := ok_ladder_reach T
  have G_ladder_at_or_none : FnOk P w K mg base CX0 1 T.f_ladder_at_or_none T.fd_ladder_at_or_none ["self", "spot"] (sp_ladder_at_or_none T (theRep T)) := ok_ladder_at_or_none T
  refine T.F_ladder_ahead.okX sc_ladder_ahead (fun vs H Q E h => ?_) (fun cdv A outer s H vs Q E hr h => ?_)
  · obtain ⟨p, wd, h, xs, F, L, n, rfl, _⟩ := h
    rfl
  · obtain ⟨p, wd, h, xs, F, L, n, rfl, hL, hlen, bad, miss, good⟩ := h
    refine ⟨_, (pss_cons (ps_expr (pe_meth (pv 0) T.cl_Ladder T.m_ladder_check_level G_ladder_check_level (hr.mono (by decide)) T.bd_ladder_check_level .nil (passes_call (takes_of rfl rfl rfl rfl) (fun _ _ _ _ h => h)) (pa_cons (pv 1) pa_nil)))
      (pss_cons (ps_set (i := 3) sc_ladder_ahead.nd rfl (.inl rfl) (pe_meth (pv 0) T.cl_Ladder T.m_ladder_begin G_ladder_begin (hr.mono (by decide)) T.bd_ladder_begin .nil pass0 (pa_cons (pv 1) (pa_cons (pv 2) pa_nil))))
      (pss_cons (ps_set (i := 4) sc_ladder_ahead.nd rfl (.inl rfl) (pe_meth (pv 0) T.cl_Ladder T.m_ladder_spot G_ladder_spot (hr.mono (by decide)) T.bd_ladder_spot .nil pass0 (pa_cons (pv 3) pa_nil)))
      (pss_cons (ps_if (pt_cmpR op_ne (pe_meth (pv 0) T.cl_Ladder T.m_ladder_at_or_none G_ladder_at_or_none (hr.mono (by decide)) T.bd_ladder_at_or_none .nil pass0 (pa_cons (pv 4) pa_nil)) (pv 2) (nomark _)) (pss_one (ps_raise rfl (takes_of rfl rfl rfl rfl) (pmk_own PySem.F.excBase_ValueError T.xp_Missing T.x_Missing T.kp_Missing (raises_own T.bp_Missing T.tp_Missing) (by rfl)))) pss_nil)
      (pss_cons (ps_set (i := 5) sc_ladder_ahead.nd rfl (.inl rfl) (pe_meth (pv 0) T.cl_Ladder T.m_ladder_reach G_ladder_reach hr T.bd_ladder_reach .nil pass0 (pa_cons (pv 1) (pa_cons (pv 4) pa_nil))))
      (pss_one (ps_ret (pe_tup (pa_cons (pe_meth (pv 0) T.cl_Ladder T.m_ladder_at_or_none G_ladder_at_or_none (hr.mono (by decide)) T.bd_ladder_at_or_none .nil pass0 (pa_cons (pv 5) pa_nil)) (pa_cons (pe_op op_sub (pv 5) (pv 4)) pa_nil)))))))))), ?_⟩
    obtain ⟨dx, r, hp, hr', f1, f2, f3⟩ := hL.has
    have ok := hL.ok
    refine ⟨_, rfl, p, dx, _, rfl, hp, rfl, _, rfl, p, wd, h, xs, F, L, rfl, hL, fun c => bad c H (Evl.Ex.refl _), fun a b => ?_⟩
    obtain ⟨l, rfl⟩ : ∃ l : Nat, L = (l : Int) := ⟨L.toNat, by omega⟩
    have hl : l ≤ h := by omega
    refine ⟨_, rfl, p, dx, _, rfl, hp, rfl, _, rfl, _, rfl, p, wd, h, xs, F, l, n, rfl, hL, hl, ?_⟩
    refine ⟨_, rfl, p, dx, _, rfl, hp, rfl, _, rfl, p, wd, h, xs, F, _, rfl, hL, by omega, fun H1 s1 => ?_⟩
    have hL1 := (theRep T).same hL s1
    have hp1 := s1 _ _ hp
    have lb := lev_begin ok.w2 (l := l) ok.rise (n := n)
    have pl := placeN_le xs (beginN wd l n)
    refine ⟨_, rfl, p, dx, _, rfl, hp1, rfl, _, rfl, p, wd, h, xs, F, placeN xs (beginN wd l n), rfl, hL1, pl, ?_⟩
    generalize placeN xs (beginN wd l n) = k at lb pl
    by_cases hn : n ∈ levL wd l xs
    · have e := lb.mp hn
      rw [e]
      obtain ⟨hk, e2⟩ := List.getElem?_eq_some_iff.mp e
      have e3 : xs.getD k 0 = n := by rw [getD_eq hk, e2]
      refine ⟨_, rfl, rfl, _, rfl, iteNS rfl ?_⟩
      refine ⟨_, rfl, p, dx, _, rfl, hp1, rfl, _, rfl, _, rfl, p, wd, h, xs, F, l, k, rfl, hL1, hlen, hl, hk, fun H2 s2 => ?_⟩
      have hL2 := (theRep T).same hL1 s2
      have hp2 := s2 _ _ hp1
      refine ⟨_, rfl, p, dx, _, rfl, hp2, rfl, _, rfl, p, wd, h, xs, F, reachN wd l xs k, rfl, hL2, reach_le _ _ _ _, ?_⟩
      refine ⟨_, rfl, _, rfl, _, _, rfl, rfl, (by show 2 ≤ sizeLine; decide), fun t nt => ?_⟩
      refine good l rfl hl hn _ t (s1.trans (s2.trans (same_upd nt))) (Same.free (s1.trans s2) nt) ?_
      have g := gap_reach ok.w2 (l := l) ok.rise hk
      have nx := next_reach ok.w2 (l := l) ok.rise hk
      rw [e3] at g nx
      rw [upd_same, g, nx]
    · refine ⟨_, rfl, ?_⟩
      have ne : ¬ oV xs[k]? = V.int n := fun z => hn (lb.mpr (by
        cases hh : xs[k]? with
        | none =>
          rw [hh] at z
          cases z
        | some y =>
          rw [hh] at z
          rw [V.int.inj z]))
      refine ⟨?_, _, rfl, iteNT ne (miss l rfl hl hn H1 s1)⟩
      cases xs[k]? <;> rfl
def sp_ladder_walk (T : Txt K mg) (R : Rep K T.c_Ladder) : Sp := fun vs H Q _ => ∃ (p : Addr) (w : Int) (h : Nat) (xs : List Int) (F : Addr → Prop) (G : Hp) (n k : Int), vs = [.ref p, .int k] ∧ View R G H p w h xs F ∧ xs.length ≤ 150 ∧ k = (placeN xs (n + 1) : Int) - 1 ∧
  Gives R G H p w h xs F ((trailR w h xs n).map stD) Q
theorem ok_ladder_walk (T : Txt K mg) : FnOk P w K mg base CX0 5 T.f_ladder_walk T.fd_ladder_walk ["self", "last"] (sp_ladder_walk T (theRep T)) := by
  have G_ladder_reach : FnOk P w K mg base CX0 4 T.f_ladder_reach T.fd_ladder_reach ["self", "level", "spot"] (sp_ladder_reach T (theRep T)) := ok_ladder_reach T
  refine T.F_ladder_walk.ok sc_ladder_walk (fun vs H Q E h => ?_) (fun cdv A outer s H vs Q E hr h => ?_)
  · obtain ⟨p, wd, h, xs, F, G, n, k, rfl, _⟩ := h
    rfl
  · obtain ⟨p, wd, h, xs, F, G, n, k, rfl, v, hlen, hk, q⟩ := h
    refine ⟨_, (pss_cons (ps_set (i := 2) sc_ladder_walk.nd rfl (.inl rfl) (pe_lst pa_nil))
      (pss_cons (ps_if (pt_cmpR op_lt (pv 1) pe_int (nomark _)) (pss_one (ps_ret (pv 2))) pss_nil)
      (pss_cons (ps_set (i := 3) sc_ladder_walk.nd rfl (.inl rfl) (pe_fld (pv 0) rfl))
      (pss_cons (ps_set (i := 4) sc_ladder_walk.nd rfl (.inl rfl) pe_int)
      (pss_cons (ps_while PassesOwn.never (pt_cmpR op_ge (pv 3) pe_int (nomark _)) (pss_cons (ps_expr (pe_bm PySem.F.plainAttrs_list PySem.F.slot_list_append PySem.F.type_list_append mt_append (pv 2) (pa_cons (pe_tup (pa_cons (pv 3) (pa_cons (pe_ix ix_list (pe_fld (pv 0) rfl) (pv 4) (fun _ _ => rfl)) pa_nil))) pa_nil)))
      (pss_cons (ps_set (i := 5) sc_ladder_walk.nd rfl (.inl rfl) (pe_meth (pv 0) T.cl_Ladder T.m_ladder_reach G_ladder_reach hr T.bd_ladder_reach .nil pass0 (pa_cons (pv 3) (pa_cons (pv 4) pa_nil))))
      (pss_one (ps_if (pt_cmpR op_le (pv 5) (pv 1) (nomark _)) (pss_one (ps_set (i := 4) sc_ladder_walk.nd rfl (.inl rfl) (pv 5))) (pss_one (ps_set (i := 3) sc_ladder_walk.nd rfl (.inl rfl) (pe_op op_sub (pv 3) pe_int))))))))
      (pss_one (ps_ret (pv 2)))))))), ?_⟩
    have hL := v.lad
    obtain ⟨dx, r, hp, hr', f1, f2, f3⟩ := hL.has
    have ok := hL.ok
    have h12 := ok.h12
    have pl := placeN_le xs (n + 1)
    refine ⟨Nat.zero_le _, fun D nD => ?_⟩
    have hp0 : upd H D (.lst []) p = some (.ins T.c_Ladder dx (flds wd h xs.length r)) := (same_upd nD) _ _ hp
    have m0 : Made G H G (upd H D (.lst [])) D F [] [] := ⟨Evl.Ex.refl _, v.sub.trans (same_upd nD), same_upd nD, v.out, fun b fb => (theRep T).there hL b fb, Same.free v.sub nD, nD, upd_same, .nil⟩
    have fin : ∀ H' G1 us, Made G H G1 H' D F us ((trailR wd h xs n).map stD) → Q (.ref D) H' := fun H' G1 us m => by
      have gn : Same G1 (upd G1 D (.lst us)) := same_upd m.gD
      exact q H' (upd G1 D (.lst us)) D us (m.view ((theRep T).same hL m.hc)) (m.g1.trans gn) m.hc nD (Same.free m.g1 m.gD) upd_same (m.all.same gn)
    have tr := trailR_rest (w := wd) (h := h) ok.rise n
    refine ⟨_, rfl, _, _, rfl, rfl, _, rfl, ite2 (fun c => ?_) (fun c => ?_)⟩
    · have c2 : k < 0 := of_decide_eq_true c
      rw [if_pos (by omega)] at tr
      rw [tr] at fin
      exact ⟨_, rfl, fin _ _ _ m0⟩
    have c2 : ¬ k < 0 := fun z => c (decide_eq_true z)
    rw [if_neg (by omega)] at tr
    refine ⟨_, rfl, p, _, dx, _, _, rfl, hp0, T.cl_Ladder, T.n_Ladder_high, rfl, ?_⟩
    dsimp only [gName]
    refine Evl.q_asg Evl.ev_c fun H1 s1 => ?_
    show tSeq (tWhile _ _) _ _ [nR p, nI k, nR D, nI (h : Int), nI 0, none] _
    refine Evl.q_while (fun m σ H' => ∃ (lv i : Nat) (ts : List (Nat × Int)) (G1 : Hp) (us : List V) (rv : Option V), m = lv + (placeN xs (n + 1) - i) ∧ σ = [nR p, nI k, nR D, nI ((lv : Int) - 1), nI (i : Int), rv] ∧ Made G H G1 H' D F us (ts.map stD) ∧ ts ++ restW wd xs n i lv = trailR wd h xs n ∧ i < placeN xs (n + 1) ∧ lv ≤ h + 1 ∧ us.length + lv + (placeN xs (n + 1) - i) ≤ h + 1 + placeN xs (n + 1)) (h + 1 + placeN xs (n + 1))
      ⟨h + 1, 0, [], G, [], none, rfl, ?_, m0.grow s1, by rw [tr]; rfl, by omega, Nat.le_refl _, by show 0 + (h + 1) + (placeN xs (n + 1) - 0) ≤ _; omega⟩ (fun m σ H' hw => ?_)
    · rw [show ((h + 1 : Nat) : Int) - 1 = (h : Int) by omega]
      rfl
    obtain ⟨lv, i, ts, G1, us, rv, rfl, rfl, md, et, il, lh, sz⟩ := hw
    refine ⟨decide (0 ≤ (lv : Int) - 1), Evl.et_test (Evl.ev_op (Evl.ev_var rfl) Evl.ev_c Evl.rv_I0), fun hb H2 s2 => ?_, fun hb H2 s2 => ?_⟩
    · have l1 : 0 ≤ (lv : Int) - 1 := of_decide_eq_true hb
      obtain ⟨l, rfl⟩ : ∃ l : Nat, lv = l + 1 := ⟨lv - 1, by omega⟩
      have el : ((l + 1 : Nat) : Int) - 1 = (l : Int) := by omega
      rw [el]
      refine ⟨_, fun _ _ x => x, ?_⟩
      have md2 := md.grow s2
      have hp2 := md2.hc _ _ hp
      have hr2 := md2.hc _ _ hr'
      have ix : i < xs.length := by omega
      refine ⟨_, rfl, .inl ⟨rfl, _, SqL.of md2.eD⟩, _, rfl, _, rfl, p, _, dx, _, _, rfl, hp2, T.cl_Ladder, T.n_Ladder__row, rfl, _, rfl, r, _, _, _, rfl, rfl, SqL.of hr2, atI_nat (map_at ix), (by show 2 ≤ sizeLine; decide), fun t nt => ?_⟩
      refine ⟨D, us, _, rfl, rfl, by rw [upd_ne (ne_of_none md2.eD nt)]; exact md2.eD, small1000 (by omega), ?_⟩
      have md3 := md2.step0 (zs := [.int (l : Int), .int (xs.getD i 0)]) (es := [.int (l : Int), .int (xs.getD i 0)]) nt fun G2 => .cons (.int _) (.cons (.int _) .nil)
      have hL3 := (theRep T).same hL md3.hc
      have rs := restW_step ok.w2 ok.rise n l ix
      have gt := reach_gt ok.w2 (l := l) ok.rise ix
      have ul : (us ++ [V.ref t]).length = us.length + 1 := by rw [List.length_append]; rfl
      refine ⟨_, rfl, p, dx, _, rfl, md3.hc _ _ hp, rfl, _, rfl, _, rfl, p, wd, h, xs, F, l, i, rfl, hL3, hlen, by omega, ix, fun H4 s4 => ?_⟩
      have md4 := md3.grow s4
      refine ⟨_, rfl, _, rfl, _, _, rfl, rfl, _, rfl, ite2 (fun c => ?_) (fun c => ?_)⟩
      · have c3 : (reachN wd l xs i : Int) ≤ k := of_decide_eq_true c
        rw [if_pos (by omega)] at rs
        refine ⟨_, rfl, l + 1 + (placeN xs (n + 1) - reachN wd l xs i), by omega, l + 1, reachN wd l xs i, ts ++ [(l, xs.getD i 0)], _, _, nI (reachN wd l xs i : Int), rfl, ?_, by rw [List.map_append]; exact md4, ?_, by omega, lh, by omega⟩
        · rw [el]
          rfl
        · rw [← et, rs, List.append_assoc]
          rfl
      · have c3 : ¬ (reachN wd l xs i : Int) ≤ k := fun z => c (decide_eq_true z)
        rw [if_neg (by omega)] at rs
        refine ⟨_, rfl, _, _, rfl, rfl, l + (placeN xs (n + 1) - i), by omega, l, i, ts ++ [(l, xs.getD i 0)], _, _, nI (reachN wd l xs i : Int), rfl, rfl, by rw [List.map_append]; exact md4, ?_, il, by omega, by omega⟩
        rw [← et, rs, List.append_assoc]
        rfl
    · have l0 : ¬ 0 ≤ (lv : Int) - 1 := of_decide_eq_false hb
      obtain rfl : lv = 0 := by omega
      have e : ts = trailR wd h xs n := by
        rw [← et]
        exact (List.append_nil ts).symm
      rw [e] at md
      exact ⟨_, rfl, fin _ _ _ (md.grow s2)⟩
theorem ok_ladder_trail (T : Txt K mg) : FnOk P w K mg base (L2.CX P w) 6 T.f_ladder_trail T.fd_ladder_trail ["self", "number"] (sp_ladder_trail T (theRep T)) := by
  have G_ladder_check_number : FnOk P w K mg base (L2.CX P w) 1 T.f_ladder_check_number T.fd_ladder_check_number ["self", "number"] (sp_ladder_check_number T (theRep T)) := ok_ladder_check_number T
  have G_ladder_walk : FnOk P w K mg base CX0 5 T.f_ladder_walk T.fd_ladder_walk ["self", "last"] (sp_ladder_walk T (theRep T)) := ok_ladder_walk T
  have G_ladder_spot : FnOk P w K mg base CX0 1 T.f_ladder_spot T.fd_ladder_spot ["self", "number"] (sp_ladder_spot T (theRep T)) := ok_ladder_spot T
  refine T.F_ladder_trail.okX sc_ladder_trail (fun vs H Q E h => ?_) (fun cdv A outer s H vs Q E hr h => ?_)
  · obtain ⟨p, wd, h, xs, F, G, n, rfl, _⟩ := h
    rfl
  · obtain ⟨p, wd, h, xs, F, G, n, rfl, v, hlen, bad, good⟩ := h
    refine ⟨_, (pss_cons (ps_expr (pe_meth (pv 0) T.cl_Ladder T.m_ladder_check_number G_ladder_check_number (hr.mono (by decide)) T.bd_ladder_check_number .nil (passes_call (takes_of rfl rfl rfl rfl) (fun _ _ _ _ h => h)) (pa_cons (pv 1) pa_nil)))
      (pss_one (ps_ret (pe_meth (pv 0) T.cl_Ladder T.m_ladder_walk G_ladder_walk hr T.bd_ladder_walk .nil pass0 (pa_cons (pe_op op_sub (pe_meth (pv 0) T.cl_Ladder T.m_ladder_spot G_ladder_spot (hr.mono (by decide)) T.bd_ladder_spot .nil pass0 (pa_cons (pe_op op_add (pv 1) pe_int) pa_nil)) pe_int) pa_nil))))), ?_⟩
    have hL := v.lad
    obtain ⟨dx, r, hp, hr', f1, f2, f3⟩ := hL.has
    refine ⟨_, rfl, p, dx, _, rfl, hp, rfl, _, rfl, p, wd, h, xs, F, n, rfl, hL, fun c => bad c H (Evl.Ex.refl _), fun a b => ?_⟩
    refine ⟨_, rfl, p, dx, _, rfl, hp, rfl, _, rfl, p, dx, _, rfl, hp, rfl, _, rfl, _, _, rfl, rfl, p, wd, h, xs, F, n + 1, rfl, hL, by omega, fun H1 s1 => ?_⟩
    refine ⟨_, _, rfl, rfl, p, wd, h, xs, F, G, n, _, rfl, v.grow s1, hlen, rfl, fun H' G' y us v' s2 s3 ny gy e d => good a b H' G' y us v' s2 (s1.trans s3) (Same.free s1 ny) gy e d⟩
theorem ok_ladder_below (T : Txt K mg) : FnOk P w K mg base (L2.CX P w) 2 T.f_ladder_below T.fd_ladder_below ["self", "number"] (sp_ladder_below T (theRep T)) := by
  have G_ladder_check_number : FnOk P w K mg base (L2.CX P w) 1 T.f_ladder_check_number T.fd_ladder_check_number ["self", "number"] (sp_ladder_check_number T (theRep T)) := ok_ladder_check_number T
  have G_ladder_before : FnOk P w K mg base CX0 1 T.f_ladder_before T.fd_ladder_before ["self", "spot"] (sp_ladder_before T (theRep T)) := ok_ladder_before T
  have G_ladder_spot : FnOk P w K mg base CX0 1 T.f_ladder_spot T.fd_ladder_spot ["self", "number"] (sp_ladder_spot T (theRep T)) := ok_ladder_spot T
  refine T.F_ladder_below.okX sc_ladder_below (fun vs H Q E h => ?_) (fun cdv A outer s H vs Q E hr h => ?_)
  · obtain ⟨p, wd, h, xs, F, n, rfl, _⟩ := h
    rfl
  · obtain ⟨p, wd, h, xs, F, n, rfl, hL, hlen, bad, good⟩ := h
    refine ⟨_, (pss_cons (ps_expr (pe_meth (pv 0) T.cl_Ladder T.m_ladder_check_number G_ladder_check_number hr T.bd_ladder_check_number .nil (passes_call (takes_of rfl rfl rfl rfl) (fun _ _ _ _ h => h)) (pa_cons (pv 1) pa_nil)))
      (pss_one (ps_ret (pe_meth (pv 0) T.cl_Ladder T.m_ladder_before G_ladder_before hr T.bd_ladder_before .nil pass0 (pa_cons (pe_meth (pv 0) T.cl_Ladder T.m_ladder_spot G_ladder_spot hr T.bd_ladder_spot .nil pass0 (pa_cons (pe_op op_add (pv 1) pe_int) pa_nil)) pa_nil))))), ?_⟩
    obtain ⟨dx, r, hp, hr', f1, f2, f3⟩ := hL.has
    have ok := hL.ok
    refine ⟨_, rfl, p, dx, _, rfl, hp, rfl, _, rfl, p, wd, h, xs, F, n, rfl, hL, fun c => bad c H (Evl.Ex.refl _), fun a b => ?_⟩
    refine ⟨_, rfl, p, dx, _, rfl, hp, rfl, _, rfl, p, dx, _, rfl, hp, rfl, _, rfl, _, _, rfl, rfl, p, wd, h, xs, F, n + 1, rfl, hL, by omega, fun H1 s1 => ?_⟩
    have z := good a b H1 s1
    rw [belowEq_at ok.rise] at z
    exact ⟨p, wd, h, xs, F, placeN xs (n + 1), rfl, (theRep T).same hL s1, placeN_le _ _, z⟩
theorem ok_ladder_above (T : Txt K mg) : FnOk P w K mg base (L2.CX P w) 2 T.f_ladder_above T.fd_ladder_above ["self", "number"] (sp_ladder_above T (theRep T)) := by
  have G_ladder_check_number : FnOk P w K mg base (L2.CX P w) 1 T.f_ladder_check_number T.fd_ladder_check_number ["self", "number"] (sp_ladder_check_number T (theRep T)) := ok_ladder_check_number T
  have G_ladder_at_or_none : FnOk P w K mg base CX0 1 T.f_ladder_at_or_none T.fd_ladder_at_or_none ["self", "spot"] (sp_ladder_at_or_none T (theRep T)) := ok_ladder_at_or_none T
  have G_ladder_spot : FnOk P w K mg base CX0 1 T.f_ladder_spot T.fd_ladder_spot ["self", "number"] (sp_ladder_spot T (theRep T)) := ok_ladder_spot T
  refine T.F_ladder_above.okX sc_ladder_above (fun vs H Q E h => ?_) (fun cdv A outer s H vs Q E hr h => ?_)
  · obtain ⟨p, wd, h, xs, F, n, rfl, _⟩ := h
    rfl
  · obtain ⟨p, wd, h, xs, F, n, rfl, hL, hlen, bad, good⟩ := h
    refine ⟨_, (pss_cons (ps_expr (pe_meth (pv 0) T.cl_Ladder T.m_ladder_check_number G_ladder_check_number hr T.bd_ladder_check_number .nil (passes_call (takes_of rfl rfl rfl rfl) (fun _ _ _ _ h => h)) (pa_cons (pv 1) pa_nil)))
      (pss_one (ps_ret (pe_meth (pv 0) T.cl_Ladder T.m_ladder_at_or_none G_ladder_at_or_none hr T.bd_ladder_at_or_none .nil pass0 (pa_cons (pe_meth (pv 0) T.cl_Ladder T.m_ladder_spot G_ladder_spot hr T.bd_ladder_spot .nil pass0 (pa_cons (pv 1) pa_nil)) pa_nil))))), ?_⟩
    obtain ⟨dx, r, hp, hr', f1, f2, f3⟩ := hL.has
    have ok := hL.ok
    refine ⟨_, rfl, p, dx, _, rfl, hp, rfl, _, rfl, p, wd, h, xs, F, n, rfl, hL, fun c => bad c H (Evl.Ex.refl _), fun a b => ?_⟩
    refine ⟨_, rfl, p, dx, _, rfl, hp, rfl, _, rfl, p, dx, _, rfl, hp, rfl, _, rfl, p, wd, h, xs, F, n, rfl, hL, by omega, fun H1 s1 => ?_⟩
    have z := good a b H1 s1
    have e : aboveEq xs n = xs[placeN xs n]? := aboveEq_at ok.rise n
    rw [e] at z
    exact ⟨p, wd, h, xs, F, placeN xs n, rfl, (theRep T).same hL s1, placeN_le _ _, z⟩
def sp_ladder_check_end (T : Txt K mg) (R : Rep K T.c_Ladder) : Sp := fun vs H Q E => ∃ (p : Addr) (w : Int) (h : Nat) (xs : List Int) (F : Addr → Prop) (n : Int), vs = [.ref p, .int n] ∧ R.Lad H p w h xs F ∧
  ((n < 0 ∨ w ^ h < n) → E (.ref T.c_OutOfRange) none H) ∧ (0 ≤ n → n ≤ w ^ h → Q .non H)
theorem ok_ladder_check_end (T : Txt K mg) : FnOk P w K mg base (L2.CX P w) 1 T.f_ladder_check_end T.fd_ladder_check_end ["self", "number"] (sp_ladder_check_end T (theRep T)) := by
  refine T.F_ladder_check_end.okX sc_ladder_check_end (fun vs H Q E h => ?_) (fun cdv A outer s H vs Q E hr h => ?_)
  · obtain ⟨p, wd, h, xs, F, n, rfl, _⟩ := h
    rfl
  · obtain ⟨p, wd, h, xs, F, n, rfl, hL, bad, good⟩ := h
    refine ⟨_, (pss_one (ps_if (PW.pt (pw_or (pt_cmpR op_lt (pv 1) pe_int (nomark _)) (pw_or1 (pt_cmpR op_gt (pv 1) (pe_fld (pv 0) rfl) (nomark _))))) (pss_one (ps_raise rfl (takes_of rfl rfl rfl rfl) (pmk_own PySem.F.excBase_ValueError T.xp_OutOfRange T.x_OutOfRange T.kp_OutOfRange (raises_own T.bp_OutOfRange T.tp_OutOfRange) (by rfl)))) pss_nil)), ?_⟩
    obtain ⟨dx, r, hp, hr', f1, f2, f3⟩ := hL.has
    refine ⟨_, rfl, _, _, rfl, rfl, _, rfl, ite2 (fun c => iteT (bad (.inl (of_decide_eq_true c)))) (fun c => ?_)⟩
    refine ⟨_, rfl, _, rfl, p, _, dx, _, _, rfl, hp, T.cl_Ladder, T.n_Ladder_limit, rfl, _, _, rfl, rfl, _, rfl, ite2 (fun c2 => bad (.inr (of_decide_eq_true c2))) (fun c2 => good ?_ ?_)⟩
    · have z : ¬ n < 0 := fun q => c (decide_eq_true q)
      omega
    · have z : ¬ wd ^ h < n := fun q => c2 (decide_eq_true q)
      omega
theorem ok_ladder_place (T : Txt K mg) : FnOk P w K mg base (L2.CX P w) 2 T.f_ladder_place T.fd_ladder_place ["self", "number"] (sp_ladder_place T (theRep T)) := by
  have G_ladder_check_end : FnOk P w K mg base (L2.CX P w) 1 T.f_ladder_check_end T.fd_ladder_check_end ["self", "number"] (sp_ladder_check_end T (theRep T)) := ok_ladder_check_end T
  have G_ladder_spot : FnOk P w K mg base CX0 1 T.f_ladder_spot T.fd_ladder_spot ["self", "number"] (sp_ladder_spot T (theRep T)) := ok_ladder_spot T
  refine T.F_ladder_place.okX sc_ladder_place (fun vs H Q E h => ?_) (fun cdv A outer s H vs Q E hr h => ?_)
  · obtain ⟨p, wd, h, xs, F, n, rfl, _⟩ := h
    rfl
  · obtain ⟨p, wd, h, xs, F, n, rfl, hL, hlen, bad, good⟩ := h
    refine ⟨_, (pss_cons (ps_expr (pe_meth (pv 0) T.cl_Ladder T.m_ladder_check_end G_ladder_check_end hr T.bd_ladder_check_end .nil (passes_call (takes_of rfl rfl rfl rfl) (fun _ _ _ _ h => h)) (pa_cons (pv 1) pa_nil)))
      (pss_one (ps_ret (pe_meth (pv 0) T.cl_Ladder T.m_ladder_spot G_ladder_spot hr T.bd_ladder_spot .nil pass0 (pa_cons (pv 1) pa_nil))))), ?_⟩
    obtain ⟨dx, r, hp, hr', f1, f2, f3⟩ := hL.has
    refine ⟨_, rfl, p, dx, _, rfl, hp, rfl, _, rfl, p, wd, h, xs, F, n, rfl, hL, fun c => bad c H (Evl.Ex.refl _), fun a b => ?_⟩
    exact ⟨_, rfl, p, dx, _, rfl, hp, rfl, _, rfl, p, wd, h, xs, F, n, rfl, hL, by omega, fun H1 s1 => good a b H1 s1⟩
def sp_ladder_check_place (T : Txt K mg) (R : Rep K T.c_Ladder) : Sp := fun vs H Q E => ∃ (p : Addr) (w : Int) (h : Nat) (xs : List Int) (F : Addr → Prop) (n : Int), vs = [.ref p, .int n] ∧ R.Lad H p w h xs F ∧
  ((n < 0 ∨ (xs.length : Int) ≤ n) → E (.ref T.c_NoPlace) none H) ∧ (0 ≤ n → n < (xs.length : Int) → Q .non H)
theorem ok_ladder_check_place (T : Txt K mg) : FnOk P w K mg base (L2.CX P w) 1 T.f_ladder_check_place T.fd_ladder_check_place ["self", "place"] (sp_ladder_check_place T (theRep T)) := by
  refine T.F_ladder_check_place.okX sc_ladder_check_place (fun vs H Q E h => ?_) (fun cdv A outer s H vs Q E hr h => ?_)
  · obtain ⟨p, wd, h, xs, F, n, rfl, _⟩ := h
    rfl
  · obtain ⟨p, wd, h, xs, F, n, rfl, hL, bad, good⟩ := h
    refine ⟨_, (pss_one (ps_if (PW.pt (pw_or (pt_cmpR op_lt (pv 1) pe_int (nomark _)) (pw_or1 (pt_cmpR op_ge (pv 1) (pe_fld (pv 0) rfl) (nomark _))))) (pss_one (ps_raise rfl (takes_of rfl rfl rfl rfl) (pmk_own PySem.F.excBase_ValueError T.xp_NoPlace T.x_NoPlace T.kp_NoPlace (raises_own T.bp_NoPlace T.tp_NoPlace) (by rfl)))) pss_nil)), ?_⟩
    obtain ⟨dx, r, hp, hr', f1, f2, f3⟩ := hL.has
    refine ⟨_, rfl, _, _, rfl, rfl, _, rfl, ite2 (fun c => iteT (bad (.inl (of_decide_eq_true c)))) (fun c => ?_)⟩
    refine ⟨_, rfl, _, rfl, p, _, dx, _, _, rfl, hp, T.cl_Ladder, T.n_Ladder_many, rfl, _, _, rfl, rfl, _, rfl, ite2 (fun c2 => bad (.inr (of_decide_eq_true c2))) (fun c2 => good ?_ ?_)⟩
    · have z : ¬ n < 0 := fun q => c (decide_eq_true q)
      omega
    · have z : ¬ (xs.length : Int) ≤ n := fun q => c2 (decide_eq_true q)
      omega
theorem ok_ladder_at (T : Txt K mg) : FnOk P w K mg base (L2.CX P w) 2 T.f_ladder_at T.fd_ladder_at ["self", "place"] (sp_ladder_at T (theRep T)) := by
  have G_ladder_check_place : FnOk P w K mg base (L2.CX P w) 1 T.f_ladder_check_place T.fd_ladder_check_place ["self", "place"] (sp_ladder_check_place T (theRep T)) := ok_ladder_check_place T
  refine T.F_ladder_at.okX sc_ladder_at (fun vs H Q E h => ?_) (fun cdv A outer s H vs Q E hr h => ?_)
  · obtain ⟨p, wd, h, xs, F, k, rfl, _⟩ := h
    rfl
  · obtain ⟨p, wd, h, xs, F, k, rfl, hL, hlen, bad, good⟩ := h
    refine ⟨_, (pss_cons (ps_expr (pe_meth (pv 0) T.cl_Ladder T.m_ladder_check_place G_ladder_check_place hr T.bd_ladder_check_place .nil (passes_call (takes_of rfl rfl rfl rfl) (fun _ _ _ _ h => h)) (pa_cons (pv 1) pa_nil)))
      (pss_one (ps_ret (pe_ix ix_list (pe_fld (pv 0) rfl) (pv 1) (fun _ _ => rfl))))), ?_⟩
    obtain ⟨dx, r, hp, hr', f1, f2, f3⟩ := hL.has
    refine ⟨_, rfl, p, dx, _, rfl, hp, rfl, _, rfl, p, wd, h, xs, F, k, rfl, hL, fun c => bad c H (Evl.Ex.refl _), fun a b => ?_⟩
    obtain ⟨j, rfl⟩ : ∃ j : Nat, k = (j : Int) := ⟨k.toNat, by omega⟩
    exact ⟨_, rfl, p, _, dx, _, _, rfl, hp, T.cl_Ladder, T.n_Ladder__row, rfl, _, rfl, r, _, _, _, rfl, rfl, SqL.of hr', atI_nat (map_at (by omega)), good j rfl (by omega) H (Evl.Ex.refl _)⟩
theorem ok_ladder_way (T : Txt K mg) : FnOk P w K mg base (L2.CX P w) 6 T.f_ladder_way T.fd_ladder_way ["self", "place"] (sp_ladder_way T (theRep T)) := by
  have G_ladder_check_place : FnOk P w K mg base (L2.CX P w) 1 T.f_ladder_check_place T.fd_ladder_check_place ["self", "place"] (sp_ladder_check_place T (theRep T)) := ok_ladder_check_place T
  have G_ladder_walk : FnOk P w K mg base CX0 5 T.f_ladder_walk T.fd_ladder_walk ["self", "last"] (sp_ladder_walk T (theRep T)) := ok_ladder_walk T
  refine T.F_ladder_way.okX sc_ladder_way (fun vs H Q E h => ?_) (fun cdv A outer s H vs Q E hr h => ?_)
  · obtain ⟨p, wd, h, xs, F, G, k, rfl, _⟩ := h
    rfl
  · obtain ⟨p, wd, h, xs, F, G, k, rfl, v, hlen, bad, good⟩ := h
    refine ⟨_, (pss_cons (ps_expr (pe_meth (pv 0) T.cl_Ladder T.m_ladder_check_place G_ladder_check_place (hr.mono (by decide)) T.bd_ladder_check_place .nil (passes_call (takes_of rfl rfl rfl rfl) (fun _ _ _ _ h => h)) (pa_cons (pv 1) pa_nil)))
      (pss_one (ps_ret (pe_meth (pv 0) T.cl_Ladder T.m_ladder_walk G_ladder_walk hr T.bd_ladder_walk .nil pass0 (pa_cons (pv 1) pa_nil))))), ?_⟩
    have hL := v.lad
    obtain ⟨dx, r, hp, hr', f1, f2, f3⟩ := hL.has
    have ok := hL.ok
    refine ⟨_, rfl, p, dx, _, rfl, hp, rfl, _, rfl, p, wd, h, xs, F, k, rfl, hL, fun c => bad c H (Evl.Ex.refl _), fun a b => ?_⟩
    obtain ⟨j, rfl⟩ : ∃ j : Nat, k = (j : Int) := ⟨k.toNat, by omega⟩
    have jl : j < xs.length := by omega
    refine ⟨_, rfl, p, dx, _, rfl, hp, rfl, _, rfl, p, wd, h, xs, F, G, xs.getD j 0, _, rfl, v, hlen, ?_, good j rfl jl⟩
    rw [place_next ok.rise jl]
    omega
theorem ok_ladder_stretch (T : Txt K mg) : FnOk P w K mg base (L2.CX P w) 2 T.f_ladder_stretch T.fd_ladder_stretch ["self", "low", "high"] (sp_ladder_stretch T (theRep T)) := by
  have G_ladder_check_end : FnOk P w K mg base (L2.CX P w) 1 T.f_ladder_check_end T.fd_ladder_check_end ["self", "number"] (sp_ladder_check_end T (theRep T)) := ok_ladder_check_end T
  refine T.F_ladder_stretch.okX sc_ladder_stretch (fun vs H Q E h => ?_) (fun cdv A outer s H vs Q E hr h => ?_)
  · obtain ⟨p, wd, h, xs, F, lo, hi, rfl, _⟩ := h
    rfl
  · obtain ⟨p, wd, h, xs, F, lo, hi, rfl, hL, hlen, bad, good⟩ := h
    refine ⟨_, (pss_cons (ps_expr (pe_meth (pv 0) T.cl_Ladder T.m_ladder_check_end G_ladder_check_end hr T.bd_ladder_check_end .nil (passes_call (takes_of rfl rfl rfl rfl) (fun _ _ _ _ h => h)) (pa_cons (pv 1) pa_nil)))
      (pss_cons (ps_expr (pe_meth (pv 0) T.cl_Ladder T.m_ladder_check_end G_ladder_check_end hr T.bd_ladder_check_end .nil (passes_call (takes_of rfl rfl rfl rfl) (fun _ _ _ _ h => h)) (pa_cons (pv 2) pa_nil)))
      (pss_one (ps_ret (pe_lc (own := [("number", 3)]) (g := gName 3) (by rfl) sc_ladder_stretch.nd (pi_list (pe_fld (pv 0) rfl)) (blkOk_by (own := [("number", 3)]) (N := ["self", "low", "high", "number"]) (sc := defScope s_ladder_stretch) (by decide +kernel)) (fun _ _ _ _ _ => (pg_name (i := 3) sc_ladder_stretch.nd rfl (Or.inl rfl))) (fun _ _ _ _ _ => (pts_one (PW.pt (pw_and (pt_cmpR op_le (pv 1) (pv 3) (nomark _)) (pw_and1 (pt_cmpR op_lt (pv 3) (pv 2) (nomark _))))))) (fun _ _ _ _ _ => (pv 3))))))), ?_⟩
    obtain ⟨dx, r, hp, hr', f1, f2, f3⟩ := hL.has
    refine ⟨_, rfl, p, dx, _, rfl, hp, rfl, _, rfl, p, wd, h, xs, F, lo, rfl, hL, fun c => bad (by omega) H (Evl.Ex.refl _), fun a b => ?_⟩
    refine ⟨_, rfl, p, dx, _, rfl, hp, rfl, _, rfl, p, wd, h, xs, F, hi, rfl, hL, fun c => bad (by omega) H (Evl.Ex.refl _), fun a2 b2 => ?_⟩
    dsimp only
    refine Evl.s_retL (xs := (stretchL xs lo hi).map V.int) ?_ fun d H2 nd s2 hd => good a b a2 b2 H2 d s2 nd hd
    exact el_fil (fun x => decide (lo ≤ x) && decide (x < hi)) (ev_fld (Evl.ev_var rfl) hp T.cl_Ladder T.n_Ladder__row rfl) (SqL.of hr') (by omega) (fun _ => rfl) (fun x _ H1 _ => Evl.et_and (Evl.et_test (Evl.ev_op (Evl.ev_var rfl) (Evl.ev_var rfl) Evl.rv_I0)) fun _ => Evl.et_test (Evl.ev_op (Evl.ev_var rfl) (Evl.ev_var rfl) Evl.rv_I0)) (fun x _ H1 _ _ => Evl.ev_var rfl)
theorem ok_ladder_counted (T : Txt K mg) : FnOk P w K mg base (L2.CX P w) 3 T.f_ladder_counted T.fd_ladder_counted ["self", "low", "high"] (sp_ladder_counted T (theRep T)) := by
  have G_ladder_stretch : FnOk P w K mg base (L2.CX P w) 2 T.f_ladder_stretch T.fd_ladder_stretch ["self", "low", "high"] (sp_ladder_stretch T (theRep T)) := ok_ladder_stretch T
  refine T.F_ladder_counted.okX sc_ladder_counted (fun vs H Q E h => ?_) (fun cdv A outer s H vs Q E hr h => ?_)
  · obtain ⟨p, wd, h, xs, F, lo, hi, rfl, _⟩ := h
    rfl
  · obtain ⟨p, wd, h, xs, F, lo, hi, rfl, hL, hlen, bad, good⟩ := h
    refine ⟨_, (pss_one (ps_ret (pe_callB call_len_seq (by rfl) T.b_len PySem.boot_len (pa_cons (pe_meth (pv 0) T.cl_Ladder T.m_ladder_stretch G_ladder_stretch hr T.bd_ladder_stretch .nil (passes_call (takes_of rfl rfl rfl rfl) (fun _ _ _ _ h => h)) (pa_cons (pv 1) (pa_cons (pv 2) pa_nil))) pa_nil)))), ?_⟩
    obtain ⟨dx, r, hp, hr', f1, f2, f3⟩ := hL.has
    refine ⟨_, rfl, p, dx, _, rfl, hp, rfl, _, rfl, _, rfl, p, wd, h, xs, F, lo, hi, rfl, hL, hlen, bad, fun a b a2 b2 H1 d s1 nd hd => ?_⟩
    refine ⟨d, _, rfl, .inl (SqL.of hd), ?_⟩
    rw [List.length_map]
    exact good a b a2 b2 H1 s1
theorem ok_poured (T : Txt K mg) : FnOk P w K mg base (L2.CX P w) 8 T.f_poured T.fd_poured ["ladder", "other"] (sp_poured T (theRep T)) := by
  have G_ladder_row : FnOk P w K mg base CX0 1 T.f_ladder_row T.fd_ladder_row ["self"] (sp_ladder_row T (theRep T)) := ok_ladder_row T
  have G_ladder_has : FnOk P w K mg base (L2.CX P w) 2 T.f_ladder_has T.fd_ladder_has ["self", "number"] (sp_ladder_has T (theRep T)) := ok_ladder_has T
  have G_ladder_put : FnOk P w K mg base (L2.CX P w) 5 T.f_ladder_put T.fd_ladder_put ["self", "number"] (sp_ladder_put T (theRep T)) := ok_ladder_put T
  refine T.F_poured.okX sc_poured (fun vs H Q E h => ?_) (fun cdv A outer s H vs Q E hr h => ?_)
  · obtain ⟨p, q, wd, w2, h, h2, xs, ys, F, F2, rfl, _⟩ := h
    rfl
  · obtain ⟨p, q, wd, w2, h, h2, xs, ys, F, F2, rfl, hL, hM, hlen, other, dup, apart, good⟩ := h
    refine ⟨_, (pss_cons (ps_if (PW.pt (pw_or (pt_cmpR op_ne (pe_fld (pv 0) rfl) (pe_fld (pv 1) rfl) (nomark _)) (pw_or1 (pt_cmpR op_ne (pe_fld (pv 0) rfl) (pe_fld (pv 1) rfl) (nomark _))))) (pss_one (ps_raise rfl (takes_of rfl rfl rfl rfl) (pmk_own PySem.F.excBase_ValueError T.xp_OtherSize T.x_OtherSize T.kp_OtherSize (raises_own T.bp_OtherSize T.tp_OtherSize) (by rfl)))) pss_nil)
      (pss_cons (ps_set (i := 2) sc_poured.nd rfl (.inl rfl) (pe_meth0 (pv 1) T.cl_Ladder T.m_ladder_row G_ladder_row (hr.mono (by decide)) T.bd_ladder_row .nil pass0))
      (pss_cons (ps_for (passes_of rfl) rfl (pi_list (pv 2)) (pg_name (i := 3) sc_poured.nd rfl (.inl rfl)) (pss_one (ps_if (pt_val (pe_meth (pv 0) T.cl_Ladder T.m_ladder_has G_ladder_has (hr.mono (by decide)) T.bd_ladder_has .nil (passes_call (takes_of rfl rfl rfl rfl) (fun _ _ _ _ h => h)) (pa_cons (pv 3) pa_nil))) (pss_one (ps_raise rfl (takes_of rfl rfl rfl rfl) (pmk_own PySem.F.excBase_ValueError T.xp_Present T.x_Present T.kp_Present (raises_own T.bp_Present T.tp_Present) (by rfl)))) pss_nil)))
      (pss_one (ps_for (passes_of rfl) rfl (pi_list (pv 2)) (pg_name (i := 3) sc_poured.nd rfl (.inl rfl)) (pss_one (ps_expr (pe_meth (pv 0) T.cl_Ladder T.m_ladder_put G_ladder_put (hr.mono (by decide)) T.bd_ladder_put .nil (passes_call (takes_of rfl rfl rfl rfl) (fun _ _ _ _ h => h)) (pa_cons (pv 3) pa_nil))))))))), ?_⟩
    obtain ⟨dx, r, hp, hr', f1, f2, f3⟩ := hL.has
    obtain ⟨dy, t, hq, ht', g1, g2, g3⟩ := hM.has
    have ok := hL.ok
    have ok2 := hM.ok
    refine ⟨_, rfl, p, _, dx, _, _, rfl, hp, T.cl_Ladder, T.n_Ladder_width, rfl, _, rfl, q, _, dy, _, _, rfl, hq, T.cl_Ladder, T.n_Ladder_width, rfl, rfl, _, rfl, ?_⟩
    by_cases cw : wd = w2
    · subst cw
      refine iteNS rfl ?_
      refine ⟨_, rfl, p, _, dx, _, _, rfl, hp, T.cl_Ladder, T.n_Ladder_high, rfl, _, rfl, q, _, dy, _, _, rfl, hq, T.cl_Ladder, T.n_Ladder_high, rfl, rfl, _, rfl, ?_⟩
      by_cases ch : h = h2
      · subst ch
        refine iteNS rfl ?_
        refine ⟨_, rfl, q, dy, _, rfl, hq, rfl, q, wd, h, ys, F2, rfl, hM, by omega, fun H1 nb s1 n1 hn => ?_⟩
        dsimp only [gName]
        have hL1 := (theRep T).same hL s1
        refine ⟨_, rfl, nb, rfl, ⟨_, SqL.of hn⟩, for_list (K := K) (a := nb) (xs := ys.map V.int) (fun i σ H' => Same H1 H' ∧ (∀ j, j < i → j < ys.length → ys.getD j 0 ∉ xs) ∧ ∃ y3, σ = [nR p, nR q, nR nb, y3]) ⟨Same.refl _, (fun j hj => absurd hj (Nat.not_lt_zero j)), none, rfl⟩ (fun i σ H' _ hh => SqL.of (hh.1 _ _ hn)) ?_ ?_⟩
        · rintro i x σ H' hi ⟨sH, no, y3, rfl⟩
          obtain ⟨il, rfl, mx⟩ := int_at hi
          dsimp only [gName]
          have hpH := sH _ _ (s1 _ _ hp)
          refine ⟨_, rfl, p, dx, _, rfl, hpH, rfl, _, rfl, p, wd, h, xs, F, _, rfl, (theRep T).same hL1 sH, by omega, fun z => absurd z (by have := ok2.lo _ mx; have := ok2.hi _ mx; omega), fun a b H2 s2 => ⟨_, rfl, ite2 (fun c => ?_) (fun c => ?_)⟩⟩
          · exact dup rfl rfl ⟨_, mx, of_decide_eq_true c⟩ H2 (s1.trans (sH.trans s2))
          · refine ⟨sH.trans s2, fun j hj jl => ?_, _, rfl⟩
            by_cases e : j = i
            · subst e
              exact fun z => c (decide_eq_true z)
            · exact no j (by omega) jl
        rintro σ H2 ⟨s2, no, y3, rfl⟩
        rw [List.length_map] at no
        have dis : ∀ y ∈ ys, y ∉ xs := fun y hy => by
          obtain ⟨j, hj, rfl⟩ := List.mem_iff_getElem.mp hy
          have z := no j hj hj
          rw [getD_eq hj] at z
          exact z
        have nod := rise_nodup ok2.rise
        have hn2 := s2 _ _ hn
        have nbF : ¬ F nb := fun f => by
          obtain ⟨o, e⟩ := (theRep T).there hL nb f
          rw [n1] at e
          cases e
        refine ⟨_, rfl, nb, rfl, ⟨_, SqL.of hn2⟩, for_list (K := K) (a := nb) (xs := ys.map V.int) (fun i σ H' => ∃ F', (theRep T).Lad H' p wd h (pourL (ys.take i) xs) F' ∧ Frame F F' H2 H' ∧ ∃ y3, σ = [nR p, nR q, nR nb, y3]) ⟨F, (theRep T).same hL1 s2, Frame.refl F (Same.refl _), y3, rfl⟩ (fun i σ H' _ hh => ?_) ?_ ?_⟩
        · obtain ⟨F', _, fr, _⟩ := hh
          exact SqL.of (fr nb _ nbF hn2).1
        · rintro i x σ H' hi ⟨F', hl, fr, y4, rfl⟩
          obtain ⟨il, rfl, mx⟩ := int_at hi
          dsimp only [gName]
          obtain ⟨dz, rz, hpz, _, _, _, _⟩ := hl.has
          have lt := List.length_take_le i ys
          have dt : ∀ y ∈ ys.take i, y ∉ xs := fun y hy => dis y (List.mem_of_mem_take hy)
          have pl := pourL_len (nod.sublist (List.take_sublist i ys)) dt
          have ny : ys.getD i 0 ∉ pourL (ys.take i) xs := fun z => by
            rcases mem_pourL.mp z with m | m
            · exact nodup_at nod il m
            · exact dis _ mx m
          refine ⟨_, rfl, p, dz, _, rfl, hpz, rfl, _, rfl, p, wd, h, _, F', _, _, rfl, view_out hl, by omega, fun z => absurd z (by have := ok2.lo _ mx; have := ok2.hi _ mx; omega), fun z => absurd z ny, fun a b _ H3 G3 F3 r3 us v3 s3 _ _ _ => ?_⟩
          rw [← pourL_next il] at v3
          exact ⟨F3, v3.lad, fr.trans (frame_view v3 s3), _, rfl⟩
        rintro σ H3 ⟨F', hl, fr, y4, rfl⟩
        rw [List.length_map, List.take_length] at hl
        exact good rfl rfl dis H3 F' hl ((Frame.refl F (s1.trans s2)).trans fr)
      · refine iteNT (fun z => ch (by have := V.int.inj z; omega)) (other (.inr ch) H (Evl.Ex.refl _))
    · exact iteNT (fun z => cw (V.int.inj z)) (iteT (other (.inl cw) H (Evl.Ex.refl _)))
theorem theProg (T : Txt K mg) : Prog P w K mg base T (theRep T) := { init := (ok_ladder_init T).mono (by decide), put := (ok_ladder_put T).mono (by decide), take := (ok_ladder_take T).mono (by decide), row := (ok_ladder_row T).mono (by decide), has := (ok_ladder_has T).mono (by decide), level := (ok_ladder_level T).mono (by decide), ahead := (ok_ladder_ahead T).mono (by decide), trail := (ok_ladder_trail T).mono (by decide), below := (ok_ladder_below T).mono (by decide), above := (ok_ladder_above T).mono (by decide), place := (ok_ladder_place T).mono (by decide), at_ := (ok_ladder_at T).mono (by decide), way := (ok_ladder_way T).mono (by decide), stretch := (ok_ladder_stretch T).mono (by decide), counted := (ok_ladder_counted T).mono (by decide), poured := (ok_poured T).mono (by decide) }
end
theorem all_mk {l : PySem.W.OpenLaw} {w : World} {K : PySem.W.Frag} {h : Heap} {mg : Str → Option Value} {fa : Addr} {f_power f_block f_thinned f_tall f_ladder_init f_ladder_put f_ladder_take f_ladder_has f_ladder_row f_ladder_level f_ladder_ahead f_ladder_trail f_ladder_below f_ladder_above f_ladder_place f_ladder_at f_ladder_way f_ladder_stretch f_ladder_counted f_ladder_check_number f_ladder_check_end f_ladder_check_level f_ladder_check_place f_ladder_spot f_ladder_at_or_none f_ladder_before f_ladder_begin f_ladder_reach f_ladder_heirs f_ladder_walk f_poured f_l_whole f_l_cell_at f_l_refused_by_any f_l_refused f_l_asked f_l_kinds f_l_no_place f_l_no_level f_l_empty f_law c_Ladder c_LadderError c_BadSize c_OutOfRange c_Present c_Missing c_NoLevel c_NoPlace c_OtherSize : Addr} (X : K.In h) (G : h.Ns mainGlobals mg) (hfa : mg "law" = some (.ref fa))
    {od_power an_power od_block an_block od_thinned an_thinned od_tall an_tall od_ladder_init an_ladder_init od_ladder_put an_ladder_put od_ladder_take an_ladder_take od_ladder_has an_ladder_has od_ladder_row an_ladder_row od_ladder_level an_ladder_level od_ladder_ahead an_ladder_ahead od_ladder_trail an_ladder_trail od_ladder_below an_ladder_below od_ladder_above an_ladder_above od_ladder_place an_ladder_place od_ladder_at an_ladder_at od_ladder_way an_ladder_way od_ladder_stretch an_ladder_stretch od_ladder_counted an_ladder_counted od_ladder_check_number an_ladder_check_number od_ladder_check_end an_ladder_check_end od_ladder_check_level an_ladder_check_level od_ladder_check_place an_ladder_check_place od_ladder_spot an_ladder_spot od_ladder_at_or_none an_ladder_at_or_none od_ladder_before an_ladder_before od_ladder_begin an_ladder_begin od_ladder_reach an_ladder_reach od_ladder_heirs an_ladder_heirs od_ladder_walk an_ladder_walk od_poured an_poured od_l_whole an_l_whole od_l_cell_at an_l_cell_at od_l_refused_by_any an_l_refused_by_any od_l_refused an_l_refused od_l_asked an_l_asked od_l_kinds an_l_kinds od_l_no_place an_l_no_place od_l_no_level an_l_no_level od_l_empty an_l_empty od_law an_law : Option Addr} {sl_power sl_block sl_thinned sl_tall sl_ladder_init sl_ladder_put sl_ladder_take sl_ladder_has sl_ladder_row sl_ladder_level sl_ladder_ahead sl_ladder_trail sl_ladder_below sl_ladder_above sl_ladder_place sl_ladder_at sl_ladder_way sl_ladder_stretch sl_ladder_counted sl_ladder_check_number sl_ladder_check_end sl_ladder_check_level sl_ladder_check_place sl_ladder_spot sl_ladder_at_or_none sl_ladder_before sl_ladder_begin sl_ladder_reach sl_ladder_heirs sl_ladder_walk sl_poured sl_l_whole sl_l_cell_at sl_l_refused_by_any sl_l_refused sl_l_asked sl_l_kinds sl_l_no_place sl_l_no_level sl_l_empty sl_law : Array (Option Value)} {oc_power kV_power dc_power pm_power cd_power ct_power oc_block kV_block dc_block pm_block cd_block ct_block oc_thinned kV_thinned dc_thinned pm_thinned cd_thinned ct_thinned oc_tall kV_tall dc_tall pm_tall cd_tall ct_tall oc_ladder_init kV_ladder_init dc_ladder_init pm_ladder_init cd_ladder_init ct_ladder_init oc_ladder_put kV_ladder_put dc_ladder_put pm_ladder_put cd_ladder_put ct_ladder_put oc_ladder_take kV_ladder_take dc_ladder_take pm_ladder_take cd_ladder_take ct_ladder_take oc_ladder_has kV_ladder_has dc_ladder_has pm_ladder_has cd_ladder_has ct_ladder_has oc_ladder_row kV_ladder_row dc_ladder_row pm_ladder_row cd_ladder_row ct_ladder_row oc_ladder_level kV_ladder_level dc_ladder_level pm_ladder_level cd_ladder_level ct_ladder_level oc_ladder_ahead kV_ladder_ahead dc_ladder_ahead pm_ladder_ahead cd_ladder_ahead ct_ladder_ahead oc_ladder_trail kV_ladder_trail dc_ladder_trail pm_ladder_trail cd_ladder_trail ct_ladder_trail oc_ladder_below kV_ladder_below dc_ladder_below pm_ladder_below cd_ladder_below ct_ladder_below oc_ladder_above kV_ladder_above dc_ladder_above pm_ladder_above cd_ladder_above ct_ladder_above oc_ladder_place kV_ladder_place dc_ladder_place pm_ladder_place cd_ladder_place ct_ladder_place oc_ladder_at kV_ladder_at dc_ladder_at pm_ladder_at cd_ladder_at ct_ladder_at oc_ladder_way kV_ladder_way dc_ladder_way pm_ladder_way cd_ladder_way ct_ladder_way oc_ladder_stretch kV_ladder_stretch dc_ladder_stretch pm_ladder_stretch cd_ladder_stretch ct_ladder_stretch oc_ladder_counted kV_ladder_counted dc_ladder_counted pm_ladder_counted cd_ladder_counted ct_ladder_counted oc_ladder_check_number kV_ladder_check_number dc_ladder_check_number pm_ladder_check_number cd_ladder_check_number ct_ladder_check_number oc_ladder_check_end kV_ladder_check_end dc_ladder_check_end pm_ladder_check_end cd_ladder_check_end ct_ladder_check_end oc_ladder_check_level kV_ladder_check_level dc_ladder_check_level pm_ladder_check_level cd_ladder_check_level ct_ladder_check_level oc_ladder_check_place kV_ladder_check_place dc_ladder_check_place pm_ladder_check_place cd_ladder_check_place ct_ladder_check_place oc_ladder_spot kV_ladder_spot dc_ladder_spot pm_ladder_spot cd_ladder_spot ct_ladder_spot oc_ladder_at_or_none kV_ladder_at_or_none dc_ladder_at_or_none pm_ladder_at_or_none cd_ladder_at_or_none ct_ladder_at_or_none oc_ladder_before kV_ladder_before dc_ladder_before pm_ladder_before cd_ladder_before ct_ladder_before oc_ladder_begin kV_ladder_begin dc_ladder_begin pm_ladder_begin cd_ladder_begin ct_ladder_begin oc_ladder_reach kV_ladder_reach dc_ladder_reach pm_ladder_reach cd_ladder_reach ct_ladder_reach oc_ladder_heirs kV_ladder_heirs dc_ladder_heirs pm_ladder_heirs cd_ladder_heirs ct_ladder_heirs oc_ladder_walk kV_ladder_walk dc_ladder_walk pm_ladder_walk cd_ladder_walk ct_ladder_walk oc_poured kV_poured dc_poured pm_poured cd_poured ct_poured oc_l_whole kV_l_whole dc_l_whole pm_l_whole cd_l_whole ct_l_whole oc_l_cell_at kV_l_cell_at dc_l_cell_at pm_l_cell_at cd_l_cell_at ct_l_cell_at oc_l_refused_by_any kV_l_refused_by_any dc_l_refused_by_any pm_l_refused_by_any cd_l_refused_by_any ct_l_refused_by_any oc_l_refused kV_l_refused dc_l_refused pm_l_refused cd_l_refused ct_l_refused oc_l_asked kV_l_asked dc_l_asked pm_l_asked cd_l_asked ct_l_asked oc_l_kinds kV_l_kinds dc_l_kinds pm_l_kinds cd_l_kinds ct_l_kinds oc_l_no_place kV_l_no_place dc_l_no_place pm_l_no_place cd_l_no_place ct_l_no_place oc_l_no_level kV_l_no_level dc_l_no_level pm_l_no_level cd_l_no_level ct_l_no_level oc_l_empty kV_l_empty dc_l_empty pm_l_empty cd_l_empty ct_l_empty oc_law kV_law dc_law pm_law cd_law ct_law : Value}
    (aC_Ladder : PySem.W.nsIn K mainGlobals "Ladder" = some (some (.ref c_Ladder)))
    (aC_LadderError : PySem.W.nsIn K mainGlobals "LadderError" = some (some (.ref c_LadderError)))
    (aC_BadSize : PySem.W.nsIn K mainGlobals "BadSize" = some (some (.ref c_BadSize)))
    (aC_OutOfRange : PySem.W.nsIn K mainGlobals "OutOfRange" = some (some (.ref c_OutOfRange)))
    (aC_Present : PySem.W.nsIn K mainGlobals "Present" = some (some (.ref c_Present)))
    (aC_Missing : PySem.W.nsIn K mainGlobals "Missing" = some (some (.ref c_Missing)))
    (aC_NoLevel : PySem.W.nsIn K mainGlobals "NoLevel" = some (some (.ref c_NoLevel)))
    (aC_NoPlace : PySem.W.nsIn K mainGlobals "NoPlace" = some (some (.ref c_NoPlace)))
    (aC_OtherSize : PySem.W.nsIn K mainGlobals "OtherSize" = some (some (.ref c_OtherSize)))
    (a_power : PySem.W.nsIn K mainGlobals "power" = some (some (.ref f_power)))
    (l_power : K.lookup f_power = some ⟨oc_power, od_power, .func (PySem.W.fnOf "power" "power" (defArgs s_power) (defBody s_power) (defScope s_power) .none kV_power dc_power pm_power an_power cd_power ct_power), sl_power⟩)
    (c_power : PySem.W.codeIn K cd_power "power" = true)
    (k_power : PySem.W.keepIn K (.ref f_power) = true)
    (a_block : PySem.W.nsIn K mainGlobals "block" = some (some (.ref f_block)))
    (l_block : K.lookup f_block = some ⟨oc_block, od_block, .func (PySem.W.fnOf "block" "block" (defArgs s_block) (defBody s_block) (defScope s_block) .none kV_block dc_block pm_block an_block cd_block ct_block), sl_block⟩)
    (c_block : PySem.W.codeIn K cd_block "block" = true)
    (k_block : PySem.W.keepIn K (.ref f_block) = true)
    (a_thinned : PySem.W.nsIn K mainGlobals "thinned" = some (some (.ref f_thinned)))
    (l_thinned : K.lookup f_thinned = some ⟨oc_thinned, od_thinned, .func (PySem.W.fnOf "thinned" "thinned" (defArgs s_thinned) (defBody s_thinned) (defScope s_thinned) .none kV_thinned dc_thinned pm_thinned an_thinned cd_thinned ct_thinned), sl_thinned⟩)
    (c_thinned : PySem.W.codeIn K cd_thinned "thinned" = true)
    (k_thinned : PySem.W.keepIn K (.ref f_thinned) = true)
    (a_tall : PySem.W.nsIn K mainGlobals "tall" = some (some (.ref f_tall)))
    (l_tall : K.lookup f_tall = some ⟨oc_tall, od_tall, .func (PySem.W.fnOf "tall" "tall" (defArgs s_tall) (defBody s_tall) (defScope s_tall) .none kV_tall dc_tall pm_tall an_tall cd_tall ct_tall), sl_tall⟩)
    (c_tall : PySem.W.codeIn K cd_tall "tall" = true)
    (k_tall : PySem.W.keepIn K (.ref f_tall) = true)
    (a_ladder_init : PySem.W.findIn K (.ref c_Ladder) "__init__" = some (some (.ref f_ladder_init)))
    (l_ladder_init : K.lookup f_ladder_init = some ⟨oc_ladder_init, od_ladder_init, .func (PySem.W.fnOf "__init__" "Ladder.__init__" (defArgs s_ladder_init) (defBody s_ladder_init) (defScope s_ladder_init) .none kV_ladder_init dc_ladder_init pm_ladder_init an_ladder_init cd_ladder_init ct_ladder_init), sl_ladder_init⟩)
    (c_ladder_init : PySem.W.codeIn K cd_ladder_init "Ladder.__init__" = true)
    (k_ladder_init : PySem.W.keepIn K (.ref f_ladder_init) = true)
    (a_ladder_put : PySem.W.findIn K (.ref c_Ladder) "put" = some (some (.ref f_ladder_put)))
    (l_ladder_put : K.lookup f_ladder_put = some ⟨oc_ladder_put, od_ladder_put, .func (PySem.W.fnOf "put" "Ladder.put" (defArgs s_ladder_put) (defBody s_ladder_put) (defScope s_ladder_put) .none kV_ladder_put dc_ladder_put pm_ladder_put an_ladder_put cd_ladder_put ct_ladder_put), sl_ladder_put⟩)
    (c_ladder_put : PySem.W.codeIn K cd_ladder_put "Ladder.put" = true)
    (k_ladder_put : PySem.W.keepIn K (.ref f_ladder_put) = true)
    (a_ladder_take : PySem.W.findIn K (.ref c_Ladder) "take" = some (some (.ref f_ladder_take)))
    (l_ladder_take : K.lookup f_ladder_take = some ⟨oc_ladder_take, od_ladder_take, .func (PySem.W.fnOf "take" "Ladder.take" (defArgs s_ladder_take) (defBody s_ladder_take) (defScope s_ladder_take) .none kV_ladder_take dc_ladder_take pm_ladder_take an_ladder_take cd_ladder_take ct_ladder_take), sl_ladder_take⟩)
    (c_ladder_take : PySem.W.codeIn K cd_ladder_take "Ladder.take" = true)
    (k_ladder_take : PySem.W.keepIn K (.ref f_ladder_take) = true)
    (a_ladder_has : PySem.W.findIn K (.ref c_Ladder) "has" = some (some (.ref f_ladder_has)))
    (l_ladder_has : K.lookup f_ladder_has = some ⟨oc_ladder_has, od_ladder_has, .func (PySem.W.fnOf "has" "Ladder.has" (defArgs s_ladder_has) (defBody s_ladder_has) (defScope s_ladder_has) .none kV_ladder_has dc_ladder_has pm_ladder_has an_ladder_has cd_ladder_has ct_ladder_has), sl_ladder_has⟩)
    (c_ladder_has : PySem.W.codeIn K cd_ladder_has "Ladder.has" = true)
    (k_ladder_has : PySem.W.keepIn K (.ref f_ladder_has) = true)
    (a_ladder_row : PySem.W.findIn K (.ref c_Ladder) "row" = some (some (.ref f_ladder_row)))
    (l_ladder_row : K.lookup f_ladder_row = some ⟨oc_ladder_row, od_ladder_row, .func (PySem.W.fnOf "row" "Ladder.row" (defArgs s_ladder_row) (defBody s_ladder_row) (defScope s_ladder_row) .none kV_ladder_row dc_ladder_row pm_ladder_row an_ladder_row cd_ladder_row ct_ladder_row), sl_ladder_row⟩)
    (c_ladder_row : PySem.W.codeIn K cd_ladder_row "Ladder.row" = true)
    (k_ladder_row : PySem.W.keepIn K (.ref f_ladder_row) = true)
    (a_ladder_level : PySem.W.findIn K (.ref c_Ladder) "level" = some (some (.ref f_ladder_level)))
    (l_ladder_level : K.lookup f_ladder_level = some ⟨oc_ladder_level, od_ladder_level, .func (PySem.W.fnOf "level" "Ladder.level" (defArgs s_ladder_level) (defBody s_ladder_level) (defScope s_ladder_level) .none kV_ladder_level dc_ladder_level pm_ladder_level an_ladder_level cd_ladder_level ct_ladder_level), sl_ladder_level⟩)
    (c_ladder_level : PySem.W.codeIn K cd_ladder_level "Ladder.level" = true)
    (k_ladder_level : PySem.W.keepIn K (.ref f_ladder_level) = true)
    (a_ladder_ahead : PySem.W.findIn K (.ref c_Ladder) "ahead" = some (some (.ref f_ladder_ahead)))
    (l_ladder_ahead : K.lookup f_ladder_ahead = some ⟨oc_ladder_ahead, od_ladder_ahead, .func (PySem.W.fnOf "ahead" "Ladder.ahead" (defArgs s_ladder_ahead) (defBody s_ladder_ahead) (defScope s_ladder_ahead) .none kV_ladder_ahead dc_ladder_ahead pm_ladder_ahead an_ladder_ahead cd_ladder_ahead ct_ladder_ahead), sl_ladder_ahead⟩)
    (c_ladder_ahead : PySem.W.codeIn K cd_ladder_ahead "Ladder.ahead" = true)
    (k_ladder_ahead : PySem.W.keepIn K (.ref f_ladder_ahead) = true)
    (a_ladder_trail : PySem.W.findIn K (.ref c_Ladder) "trail" = some (some (.ref f_ladder_trail)))
    (l_ladder_trail : K.lookup f_ladder_trail = some ⟨oc_ladder_trail, od_ladder_trail, .func (PySem.W.fnOf "trail" "Ladder.trail" (defArgs s_ladder_trail) (defBody s_ladder_trail) (defScope s_ladder_trail) .none kV_ladder_trail dc_ladder_trail pm_ladder_trail an_ladder_trail cd_ladder_trail ct_ladder_trail), sl_ladder_trail⟩)
    (c_ladder_trail : PySem.W.codeIn K cd_ladder_trail "Ladder.trail" = true)
    (k_ladder_trail : PySem.W.keepIn K (.ref f_ladder_trail) = true)
    (a_ladder_below : PySem.W.findIn K (.ref c_Ladder) "below" = some (some (.ref f_ladder_below)))
    (l_ladder_below : K.lookup f_ladder_below = some ⟨oc_ladder_below, od_ladder_below, .func (PySem.W.fnOf "below" "Ladder.below" (defArgs s_ladder_below) (defBody s_ladder_below) (defScope s_ladder_below) .none kV_ladder_below dc_ladder_below pm_ladder_below an_ladder_below cd_ladder_below ct_ladder_below), sl_ladder_below⟩)
    (c_ladder_below : PySem.W.codeIn K cd_ladder_below "Ladder.below" = true)
    (k_ladder_below : PySem.W.keepIn K (.ref f_ladder_below) = true)
    (a_ladder_above : PySem.W.findIn K (.ref c_Ladder) "above" = some (some (.ref f_ladder_above)))
    (l_ladder_above : K.lookup f_ladder_above = some ⟨oc_ladder_above, od_ladder_above, .func (PySem.W.fnOf "above" "Ladder.above" (defArgs s_ladder_above) (defBody s_ladder_above) (defScope s_ladder_above) .none kV_ladder_above dc_ladder_above pm_ladder_above an_ladder_above cd_ladder_above ct_ladder_above), sl_ladder_above⟩)
    (c_ladder_above : PySem.W.codeIn K cd_ladder_above "Ladder.above" = true)
    (k_ladder_above : PySem.W.keepIn K (.ref f_ladder_above) = true)
    (a_ladder_place : PySem.W.findIn K (.ref c_Ladder) "place" = some (some (.ref f_ladder_place)))
    (l_ladder_place : K.lookup f_ladder_place = some ⟨oc_ladder_place, od_ladder_place, .func (PySem.W.fnOf "place" "Ladder.place" (defArgs s_ladder_place) (defBody s_ladder_place) (defScope s_ladder_place) .none kV_ladder_place dc_ladder_place pm_ladder_place an_ladder_place cd_ladder_place ct_ladder_place), sl_ladder_place⟩)
    (c_ladder_place : PySem.W.codeIn K cd_ladder_place "Ladder.place" = true)
    (k_ladder_place : PySem.W.keepIn K (.ref f_ladder_place) = true)
    (a_ladder_at : PySem.W.findIn K (.ref c_Ladder) "at" = some (some (.ref f_ladder_at)))
    (l_ladder_at : K.lookup f_ladder_at = some ⟨oc_ladder_at, od_ladder_at, .func (PySem.W.fnOf "at" "Ladder.at" (defArgs s_ladder_at) (defBody s_ladder_at) (defScope s_ladder_at) .none kV_ladder_at dc_ladder_at pm_ladder_at an_ladder_at cd_ladder_at ct_ladder_at), sl_ladder_at⟩)
    (c_ladder_at : PySem.W.codeIn K cd_ladder_at "Ladder.at" = true)
    (k_ladder_at : PySem.W.keepIn K (.ref f_ladder_at) = true)
    (a_ladder_way : PySem.W.findIn K (.ref c_Ladder) "way" = some (some (.ref f_ladder_way)))
    (l_ladder_way : K.lookup f_ladder_way = some ⟨oc_ladder_way, od_ladder_way, .func (PySem.W.fnOf "way" "Ladder.way" (defArgs s_ladder_way) (defBody s_ladder_way) (defScope s_ladder_way) .none kV_ladder_way dc_ladder_way pm_ladder_way an_ladder_way cd_ladder_way ct_ladder_way), sl_ladder_way⟩)
    (c_ladder_way : PySem.W.codeIn K cd_ladder_way "Ladder.way" = true)
    (k_ladder_way : PySem.W.keepIn K (.ref f_ladder_way) = true)
    (a_ladder_stretch : PySem.W.findIn K (.ref c_Ladder) "stretch" = some (some (.ref f_ladder_stretch)))
    (l_ladder_stretch : K.lookup f_ladder_stretch = some ⟨oc_ladder_stretch, od_ladder_stretch, .func (PySem.W.fnOf "stretch" "Ladder.stretch" (defArgs s_ladder_stretch) (defBody s_ladder_stretch) (defScope s_ladder_stretch) .none kV_ladder_stretch dc_ladder_stretch pm_ladder_stretch an_ladder_stretch cd_ladder_stretch ct_ladder_stretch), sl_ladder_stretch⟩)
    (c_ladder_stretch : PySem.W.codeIn K cd_ladder_stretch "Ladder.stretch" = true)
    (k_ladder_stretch : PySem.W.keepIn K (.ref f_ladder_stretch) = true)
    (a_ladder_counted : PySem.W.findIn K (.ref c_Ladder) "counted" = some (some (.ref f_ladder_counted)))
    (l_ladder_counted : K.lookup f_ladder_counted = some ⟨oc_ladder_counted, od_ladder_counted, .func (PySem.W.fnOf "counted" "Ladder.counted" (defArgs s_ladder_counted) (defBody s_ladder_counted) (defScope s_ladder_counted) .none kV_ladder_counted dc_ladder_counted pm_ladder_counted an_ladder_counted cd_ladder_counted ct_ladder_counted), sl_ladder_counted⟩)
    (c_ladder_counted : PySem.W.codeIn K cd_ladder_counted "Ladder.counted" = true)
    (k_ladder_counted : PySem.W.keepIn K (.ref f_ladder_counted) = true)
    (a_ladder_check_number : PySem.W.findIn K (.ref c_Ladder) "_check_number" = some (some (.ref f_ladder_check_number)))
    (l_ladder_check_number : K.lookup f_ladder_check_number = some ⟨oc_ladder_check_number, od_ladder_check_number, .func (PySem.W.fnOf "_check_number" "Ladder._check_number" (defArgs s_ladder_check_number) (defBody s_ladder_check_number) (defScope s_ladder_check_number) .none kV_ladder_check_number dc_ladder_check_number pm_ladder_check_number an_ladder_check_number cd_ladder_check_number ct_ladder_check_number), sl_ladder_check_number⟩)
    (c_ladder_check_number : PySem.W.codeIn K cd_ladder_check_number "Ladder._check_number" = true)
    (k_ladder_check_number : PySem.W.keepIn K (.ref f_ladder_check_number) = true)
    (a_ladder_check_end : PySem.W.findIn K (.ref c_Ladder) "_check_end" = some (some (.ref f_ladder_check_end)))
    (l_ladder_check_end : K.lookup f_ladder_check_end = some ⟨oc_ladder_check_end, od_ladder_check_end, .func (PySem.W.fnOf "_check_end" "Ladder._check_end" (defArgs s_ladder_check_end) (defBody s_ladder_check_end) (defScope s_ladder_check_end) .none kV_ladder_check_end dc_ladder_check_end pm_ladder_check_end an_ladder_check_end cd_ladder_check_end ct_ladder_check_end), sl_ladder_check_end⟩)
    (c_ladder_check_end : PySem.W.codeIn K cd_ladder_check_end "Ladder._check_end" = true)
    (k_ladder_check_end : PySem.W.keepIn K (.ref f_ladder_check_end) = true)
    (a_ladder_check_level : PySem.W.findIn K (.ref c_Ladder) "_check_level" = some (some (.ref f_ladder_check_level)))
    (l_ladder_check_level : K.lookup f_ladder_check_level = some ⟨oc_ladder_check_level, od_ladder_check_level, .func (PySem.W.fnOf "_check_level" "Ladder._check_level" (defArgs s_ladder_check_level) (defBody s_ladder_check_level) (defScope s_ladder_check_level) .none kV_ladder_check_level dc_ladder_check_level pm_ladder_check_level an_ladder_check_level cd_ladder_check_level ct_ladder_check_level), sl_ladder_check_level⟩)
    (c_ladder_check_level : PySem.W.codeIn K cd_ladder_check_level "Ladder._check_level" = true)
    (k_ladder_check_level : PySem.W.keepIn K (.ref f_ladder_check_level) = true)
    (a_ladder_check_place : PySem.W.findIn K (.ref c_Ladder) "_check_place" = some (some (.ref f_ladder_check_place)))
    (l_ladder_check_place : K.lookup f_ladder_check_place = some ⟨oc_ladder_check_place, od_ladder_check_place, .func (PySem.W.fnOf "_check_place" "Ladder._check_place" (defArgs s_ladder_check_place) (defBody s_ladder_check_place) (defScope s_ladder_check_place) .none kV_ladder_check_place dc_ladder_check_place pm_ladder_check_place an_ladder_check_place cd_ladder_check_place ct_ladder_check_place), sl_ladder_check_place⟩)
    (c_ladder_check_place : PySem.W.codeIn K cd_ladder_check_place "Ladder._check_place" = true)
    (k_ladder_check_place : PySem.W.keepIn K (.ref f_ladder_check_place) = true)
    (a_ladder_spot : PySem.W.findIn K (.ref c_Ladder) "_spot" = some (some (.ref f_ladder_spot)))
    (l_ladder_spot : K.lookup f_ladder_spot = some ⟨oc_ladder_spot, od_ladder_spot, .func (PySem.W.fnOf "_spot" "Ladder._spot" (defArgs s_ladder_spot) (defBody s_ladder_spot) (defScope s_ladder_spot) .none kV_ladder_spot dc_ladder_spot pm_ladder_spot an_ladder_spot cd_ladder_spot ct_ladder_spot), sl_ladder_spot⟩)
    (c_ladder_spot : PySem.W.codeIn K cd_ladder_spot "Ladder._spot" = true)
    (k_ladder_spot : PySem.W.keepIn K (.ref f_ladder_spot) = true)
    (a_ladder_at_or_none : PySem.W.findIn K (.ref c_Ladder) "_at_or_none" = some (some (.ref f_ladder_at_or_none)))
    (l_ladder_at_or_none : K.lookup f_ladder_at_or_none = some ⟨oc_ladder_at_or_none, od_ladder_at_or_none, .func (PySem.W.fnOf "_at_or_none" "Ladder._at_or_none" (defArgs s_ladder_at_or_none) (defBody s_ladder_at_or_none) (defScope s_ladder_at_or_none) .none kV_ladder_at_or_none dc_ladder_at_or_none pm_ladder_at_or_none an_ladder_at_or_none cd_ladder_at_or_none ct_ladder_at_or_none), sl_ladder_at_or_none⟩)
    (c_ladder_at_or_none : PySem.W.codeIn K cd_ladder_at_or_none "Ladder._at_or_none" = true)
    (k_ladder_at_or_none : PySem.W.keepIn K (.ref f_ladder_at_or_none) = true)
    (a_ladder_before : PySem.W.findIn K (.ref c_Ladder) "_before" = some (some (.ref f_ladder_before)))
    (l_ladder_before : K.lookup f_ladder_before = some ⟨oc_ladder_before, od_ladder_before, .func (PySem.W.fnOf "_before" "Ladder._before" (defArgs s_ladder_before) (defBody s_ladder_before) (defScope s_ladder_before) .none kV_ladder_before dc_ladder_before pm_ladder_before an_ladder_before cd_ladder_before ct_ladder_before), sl_ladder_before⟩)
    (c_ladder_before : PySem.W.codeIn K cd_ladder_before "Ladder._before" = true)
    (k_ladder_before : PySem.W.keepIn K (.ref f_ladder_before) = true)
    (a_ladder_begin : PySem.W.findIn K (.ref c_Ladder) "_begin" = some (some (.ref f_ladder_begin)))
    (l_ladder_begin : K.lookup f_ladder_begin = some ⟨oc_ladder_begin, od_ladder_begin, .func (PySem.W.fnOf "_begin" "Ladder._begin" (defArgs s_ladder_begin) (defBody s_ladder_begin) (defScope s_ladder_begin) .none kV_ladder_begin dc_ladder_begin pm_ladder_begin an_ladder_begin cd_ladder_begin ct_ladder_begin), sl_ladder_begin⟩)
    (c_ladder_begin : PySem.W.codeIn K cd_ladder_begin "Ladder._begin" = true)
    (k_ladder_begin : PySem.W.keepIn K (.ref f_ladder_begin) = true)
    (a_ladder_reach : PySem.W.findIn K (.ref c_Ladder) "_reach" = some (some (.ref f_ladder_reach)))
    (l_ladder_reach : K.lookup f_ladder_reach = some ⟨oc_ladder_reach, od_ladder_reach, .func (PySem.W.fnOf "_reach" "Ladder._reach" (defArgs s_ladder_reach) (defBody s_ladder_reach) (defScope s_ladder_reach) .none kV_ladder_reach dc_ladder_reach pm_ladder_reach an_ladder_reach cd_ladder_reach ct_ladder_reach), sl_ladder_reach⟩)
    (c_ladder_reach : PySem.W.codeIn K cd_ladder_reach "Ladder._reach" = true)
    (k_ladder_reach : PySem.W.keepIn K (.ref f_ladder_reach) = true)
    (a_ladder_heirs : PySem.W.findIn K (.ref c_Ladder) "_heirs" = some (some (.ref f_ladder_heirs)))
    (l_ladder_heirs : K.lookup f_ladder_heirs = some ⟨oc_ladder_heirs, od_ladder_heirs, .func (PySem.W.fnOf "_heirs" "Ladder._heirs" (defArgs s_ladder_heirs) (defBody s_ladder_heirs) (defScope s_ladder_heirs) .none kV_ladder_heirs dc_ladder_heirs pm_ladder_heirs an_ladder_heirs cd_ladder_heirs ct_ladder_heirs), sl_ladder_heirs⟩)
    (c_ladder_heirs : PySem.W.codeIn K cd_ladder_heirs "Ladder._heirs" = true)
    (k_ladder_heirs : PySem.W.keepIn K (.ref f_ladder_heirs) = true)
    (a_ladder_walk : PySem.W.findIn K (.ref c_Ladder) "_walk" = some (some (.ref f_ladder_walk)))
    (l_ladder_walk : K.lookup f_ladder_walk = some ⟨oc_ladder_walk, od_ladder_walk, .func (PySem.W.fnOf "_walk" "Ladder._walk" (defArgs s_ladder_walk) (defBody s_ladder_walk) (defScope s_ladder_walk) .none kV_ladder_walk dc_ladder_walk pm_ladder_walk an_ladder_walk cd_ladder_walk ct_ladder_walk), sl_ladder_walk⟩)
    (c_ladder_walk : PySem.W.codeIn K cd_ladder_walk "Ladder._walk" = true)
    (k_ladder_walk : PySem.W.keepIn K (.ref f_ladder_walk) = true)
    (a_poured : PySem.W.nsIn K mainGlobals "poured" = some (some (.ref f_poured)))
    (l_poured : K.lookup f_poured = some ⟨oc_poured, od_poured, .func (PySem.W.fnOf "poured" "poured" (defArgs s_poured) (defBody s_poured) (defScope s_poured) .none kV_poured dc_poured pm_poured an_poured cd_poured ct_poured), sl_poured⟩)
    (c_poured : PySem.W.codeIn K cd_poured "poured" = true)
    (k_poured : PySem.W.keepIn K (.ref f_poured) = true)
    (a_l_whole : PySem.W.nsIn K mainGlobals "_law_whole" = some (some (.ref f_l_whole)))
    (l_l_whole : K.lookup f_l_whole = some ⟨oc_l_whole, od_l_whole, .func (PySem.W.fnOf "_law_whole" "_law_whole" (defArgs s_l_whole) (defBody s_l_whole) (defScope s_l_whole) .none kV_l_whole dc_l_whole pm_l_whole an_l_whole cd_l_whole ct_l_whole), sl_l_whole⟩)
    (c_l_whole : PySem.W.codeIn K cd_l_whole "_law_whole" = true)
    (k_l_whole : PySem.W.keepIn K (.ref f_l_whole) = true)
    (a_l_cell_at : PySem.W.nsIn K mainGlobals "_law_cell_at" = some (some (.ref f_l_cell_at)))
    (l_l_cell_at : K.lookup f_l_cell_at = some ⟨oc_l_cell_at, od_l_cell_at, .func (PySem.W.fnOf "_law_cell_at" "_law_cell_at" (defArgs s_l_cell_at) (defBody s_l_cell_at) (defScope s_l_cell_at) .none kV_l_cell_at dc_l_cell_at pm_l_cell_at an_l_cell_at cd_l_cell_at ct_l_cell_at), sl_l_cell_at⟩)
    (c_l_cell_at : PySem.W.codeIn K cd_l_cell_at "_law_cell_at" = true)
    (k_l_cell_at : PySem.W.keepIn K (.ref f_l_cell_at) = true)
    (a_l_refused_by_any : PySem.W.nsIn K mainGlobals "_law_refused_by_any" = some (some (.ref f_l_refused_by_any)))
    (l_l_refused_by_any : K.lookup f_l_refused_by_any = some ⟨oc_l_refused_by_any, od_l_refused_by_any, .func (PySem.W.fnOf "_law_refused_by_any" "_law_refused_by_any" (defArgs s_l_refused_by_any) (defBody s_l_refused_by_any) (defScope s_l_refused_by_any) .none kV_l_refused_by_any dc_l_refused_by_any pm_l_refused_by_any an_l_refused_by_any cd_l_refused_by_any ct_l_refused_by_any), sl_l_refused_by_any⟩)
    (c_l_refused_by_any : PySem.W.codeIn K cd_l_refused_by_any "_law_refused_by_any" = true)
    (k_l_refused_by_any : PySem.W.keepIn K (.ref f_l_refused_by_any) = true)
    (a_l_refused : PySem.W.nsIn K mainGlobals "_law_refused" = some (some (.ref f_l_refused)))
    (l_l_refused : K.lookup f_l_refused = some ⟨oc_l_refused, od_l_refused, .func (PySem.W.fnOf "_law_refused" "_law_refused" (defArgs s_l_refused) (defBody s_l_refused) (defScope s_l_refused) .none kV_l_refused dc_l_refused pm_l_refused an_l_refused cd_l_refused ct_l_refused), sl_l_refused⟩)
    (c_l_refused : PySem.W.codeIn K cd_l_refused "_law_refused" = true)
    (k_l_refused : PySem.W.keepIn K (.ref f_l_refused) = true)
    (a_l_asked : PySem.W.nsIn K mainGlobals "_law_asked" = some (some (.ref f_l_asked)))
    (l_l_asked : K.lookup f_l_asked = some ⟨oc_l_asked, od_l_asked, .func (PySem.W.fnOf "_law_asked" "_law_asked" (defArgs s_l_asked) (defBody s_l_asked) (defScope s_l_asked) .none kV_l_asked dc_l_asked pm_l_asked an_l_asked cd_l_asked ct_l_asked), sl_l_asked⟩)
    (c_l_asked : PySem.W.codeIn K cd_l_asked "_law_asked" = true)
    (k_l_asked : PySem.W.keepIn K (.ref f_l_asked) = true)
    (a_l_kinds : PySem.W.nsIn K mainGlobals "_law_kinds" = some (some (.ref f_l_kinds)))
    (l_l_kinds : K.lookup f_l_kinds = some ⟨oc_l_kinds, od_l_kinds, .func (PySem.W.fnOf "_law_kinds" "_law_kinds" (defArgs s_l_kinds) (defBody s_l_kinds) (defScope s_l_kinds) .none kV_l_kinds dc_l_kinds pm_l_kinds an_l_kinds cd_l_kinds ct_l_kinds), sl_l_kinds⟩)
    (c_l_kinds : PySem.W.codeIn K cd_l_kinds "_law_kinds" = true)
    (k_l_kinds : PySem.W.keepIn K (.ref f_l_kinds) = true)
    (a_l_no_place : PySem.W.nsIn K mainGlobals "_law_no_place" = some (some (.ref f_l_no_place)))
    (l_l_no_place : K.lookup f_l_no_place = some ⟨oc_l_no_place, od_l_no_place, .func (PySem.W.fnOf "_law_no_place" "_law_no_place" (defArgs s_l_no_place) (defBody s_l_no_place) (defScope s_l_no_place) .none kV_l_no_place dc_l_no_place pm_l_no_place an_l_no_place cd_l_no_place ct_l_no_place), sl_l_no_place⟩)
    (c_l_no_place : PySem.W.codeIn K cd_l_no_place "_law_no_place" = true)
    (k_l_no_place : PySem.W.keepIn K (.ref f_l_no_place) = true)
    (a_l_no_level : PySem.W.nsIn K mainGlobals "_law_no_level" = some (some (.ref f_l_no_level)))
    (l_l_no_level : K.lookup f_l_no_level = some ⟨oc_l_no_level, od_l_no_level, .func (PySem.W.fnOf "_law_no_level" "_law_no_level" (defArgs s_l_no_level) (defBody s_l_no_level) (defScope s_l_no_level) .none kV_l_no_level dc_l_no_level pm_l_no_level an_l_no_level cd_l_no_level ct_l_no_level), sl_l_no_level⟩)
    (c_l_no_level : PySem.W.codeIn K cd_l_no_level "_law_no_level" = true)
    (k_l_no_level : PySem.W.keepIn K (.ref f_l_no_level) = true)
    (a_l_empty : PySem.W.nsIn K mainGlobals "_law_empty" = some (some (.ref f_l_empty)))
    (l_l_empty : K.lookup f_l_empty = some ⟨oc_l_empty, od_l_empty, .func (PySem.W.fnOf "_law_empty" "_law_empty" (defArgs s_l_empty) (defBody s_l_empty) (defScope s_l_empty) .none kV_l_empty dc_l_empty pm_l_empty an_l_empty cd_l_empty ct_l_empty), sl_l_empty⟩)
    (c_l_empty : PySem.W.codeIn K cd_l_empty "_law_empty" = true)
    (k_l_empty : PySem.W.keepIn K (.ref f_l_empty) = true)
    (a_law : PySem.W.nsIn K mainGlobals "law" = some (some (.ref f_law)))
    (l_law : K.lookup f_law = some ⟨oc_law, od_law, .func (PySem.W.fnOf "law" "law" (defArgs s_law) (defBody s_law) (defScope s_law) .none kV_law dc_law pm_law an_law cd_law ct_law), sl_law⟩)
    (c_law : PySem.W.codeIn K cd_law "law" = true)
    (k_law : PySem.W.keepIn K (.ref f_law) = true)
    (z_ValueError : PySem.W.nsIn K mainGlobals "ValueError" = some none)
    (z_bool : PySem.W.nsIn K mainGlobals "bool" = some none)
    (z_enumerate : PySem.W.nsIn K mainGlobals "enumerate" = some none)
    (z_int : PySem.W.nsIn K mainGlobals "int" = some none)
    (z_isinstance : PySem.W.nsIn K mainGlobals "isinstance" = some none)
    (z_len : PySem.W.nsIn K mainGlobals "len" = some none)
    (z_list : PySem.W.nsIn K mainGlobals "list" = some none)
    (z_range : PySem.W.nsIn K mainGlobals "range" = some none)
    (pg_Ladder : PySem.W.plainGet K c_Ladder Str.empty = true)
    (hd_Ladder : PySem.W.hasDictIn K c_Ladder = true)
    (po_Ladder : PySem.W.plainOver K c_Ladder = true)
    (sa_Ladder : PySem.W.findIn K (.ref c_Ladder) "__setattr__" = some (some (.builtin "object.__setattr__")))
    (ma_Ladder : PySem.W.makesIn K c_Ladder = true)
    (kc_Ladder : PySem.W.keepIn K (.ref c_Ladder) = true)
    (i_ladder_init : PySem.W.isFn K (.ref f_ladder_init) = true)
    (i_ladder_put : PySem.W.isFn K (.ref f_ladder_put) = true)
    (i_ladder_take : PySem.W.isFn K (.ref f_ladder_take) = true)
    (i_ladder_has : PySem.W.isFn K (.ref f_ladder_has) = true)
    (i_ladder_row : PySem.W.isFn K (.ref f_ladder_row) = true)
    (i_ladder_level : PySem.W.isFn K (.ref f_ladder_level) = true)
    (i_ladder_ahead : PySem.W.isFn K (.ref f_ladder_ahead) = true)
    (i_ladder_trail : PySem.W.isFn K (.ref f_ladder_trail) = true)
    (i_ladder_below : PySem.W.isFn K (.ref f_ladder_below) = true)
    (i_ladder_above : PySem.W.isFn K (.ref f_ladder_above) = true)
    (i_ladder_place : PySem.W.isFn K (.ref f_ladder_place) = true)
    (i_ladder_at : PySem.W.isFn K (.ref f_ladder_at) = true)
    (i_ladder_way : PySem.W.isFn K (.ref f_ladder_way) = true)
    (i_ladder_stretch : PySem.W.isFn K (.ref f_ladder_stretch) = true)
    (i_ladder_counted : PySem.W.isFn K (.ref f_ladder_counted) = true)
    (i_ladder_check_number : PySem.W.isFn K (.ref f_ladder_check_number) = true)
    (i_ladder_check_end : PySem.W.isFn K (.ref f_ladder_check_end) = true)
    (i_ladder_check_level : PySem.W.isFn K (.ref f_ladder_check_level) = true)
    (i_ladder_check_place : PySem.W.isFn K (.ref f_ladder_check_place) = true)
    (i_ladder_spot : PySem.W.isFn K (.ref f_ladder_spot) = true)
    (i_ladder_at_or_none : PySem.W.isFn K (.ref f_ladder_at_or_none) = true)
    (i_ladder_before : PySem.W.isFn K (.ref f_ladder_before) = true)
    (i_ladder_begin : PySem.W.isFn K (.ref f_ladder_begin) = true)
    (i_ladder_reach : PySem.W.isFn K (.ref f_ladder_reach) = true)
    (i_ladder_heirs : PySem.W.isFn K (.ref f_ladder_heirs) = true)
    (i_ladder_walk : PySem.W.isFn K (.ref f_ladder_walk) = true)
    (n_Ladder_width : PySem.W.findIn K (.ref c_Ladder) "width" = some none)
    (n_Ladder_high : PySem.W.findIn K (.ref c_Ladder) "high" = some none)
    (n_Ladder_limit : PySem.W.findIn K (.ref c_Ladder) "limit" = some none)
    (n_Ladder_many : PySem.W.findIn K (.ref c_Ladder) "many" = some none)
    (n_Ladder__row : PySem.W.findIn K (.ref c_Ladder) "_row" = some none)
    (xp_BadSize : PySem.W.excIn K c_BadSize [.type "ValueError", .type "Exception", .type "BaseException", .type "object"] "ValueError.__new__" = true)
    (kp_BadSize : PySem.W.keepIn K (.ref c_BadSize) = true)
    (bp_BadSize : PySem.W.subIn K (.ref c_BadSize) (.type "BaseException") = some true)
    (tp_BadSize : PySem.W.typeIn K (.ref c_BadSize) = some (.type "type"))
    (xp_OutOfRange : PySem.W.excIn K c_OutOfRange [.type "ValueError", .type "Exception", .type "BaseException", .type "object"] "ValueError.__new__" = true)
    (kp_OutOfRange : PySem.W.keepIn K (.ref c_OutOfRange) = true)
    (bp_OutOfRange : PySem.W.subIn K (.ref c_OutOfRange) (.type "BaseException") = some true)
    (tp_OutOfRange : PySem.W.typeIn K (.ref c_OutOfRange) = some (.type "type"))
    (xp_Present : PySem.W.excIn K c_Present [.type "ValueError", .type "Exception", .type "BaseException", .type "object"] "ValueError.__new__" = true)
    (kp_Present : PySem.W.keepIn K (.ref c_Present) = true)
    (bp_Present : PySem.W.subIn K (.ref c_Present) (.type "BaseException") = some true)
    (tp_Present : PySem.W.typeIn K (.ref c_Present) = some (.type "type"))
    (xp_Missing : PySem.W.excIn K c_Missing [.type "ValueError", .type "Exception", .type "BaseException", .type "object"] "ValueError.__new__" = true)
    (kp_Missing : PySem.W.keepIn K (.ref c_Missing) = true)
    (bp_Missing : PySem.W.subIn K (.ref c_Missing) (.type "BaseException") = some true)
    (tp_Missing : PySem.W.typeIn K (.ref c_Missing) = some (.type "type"))
    (xp_NoLevel : PySem.W.excIn K c_NoLevel [.type "ValueError", .type "Exception", .type "BaseException", .type "object"] "ValueError.__new__" = true)
    (kp_NoLevel : PySem.W.keepIn K (.ref c_NoLevel) = true)
    (bp_NoLevel : PySem.W.subIn K (.ref c_NoLevel) (.type "BaseException") = some true)
    (tp_NoLevel : PySem.W.typeIn K (.ref c_NoLevel) = some (.type "type"))
    (xp_NoPlace : PySem.W.excIn K c_NoPlace [.type "ValueError", .type "Exception", .type "BaseException", .type "object"] "ValueError.__new__" = true)
    (kp_NoPlace : PySem.W.keepIn K (.ref c_NoPlace) = true)
    (bp_NoPlace : PySem.W.subIn K (.ref c_NoPlace) (.type "BaseException") = some true)
    (tp_NoPlace : PySem.W.typeIn K (.ref c_NoPlace) = some (.type "type"))
    (xp_OtherSize : PySem.W.excIn K c_OtherSize [.type "ValueError", .type "Exception", .type "BaseException", .type "object"] "ValueError.__new__" = true)
    (kp_OtherSize : PySem.W.keepIn K (.ref c_OtherSize) = true)
    (bp_OtherSize : PySem.W.subIn K (.ref c_OtherSize) (.type "BaseException") = some true)
    (tp_OtherSize : PySem.W.typeIn K (.ref c_OtherSize) = some (.type "type"))
    (exm_BadSize_BadSize : PySem.W.exmOne K (.ref c_BadSize) (.ref c_BadSize) = some true)
    (exm_BadSize_LadderError : PySem.W.exmOne K (.ref c_BadSize) (.ref c_LadderError) = some true)
    (exm_BadSize_NoPlace : PySem.W.exmOne K (.ref c_BadSize) (.ref c_NoPlace) = some false)
    (exm_BadSize_NoLevel : PySem.W.exmOne K (.ref c_BadSize) (.ref c_NoLevel) = some false)
    (kit_BadSize_ValueError : PySem.W.kitOne K (.ref c_BadSize) (.type "ValueError") = some true)
    (kit_BadSize_Missing : PySem.W.kitOne K (.ref c_BadSize) (.ref c_Missing) = some false)
    (kit_BadSize_Present : PySem.W.kitOne K (.ref c_BadSize) (.ref c_Present) = some false)
    (kit_BadSize_OutOfRange : PySem.W.kitOne K (.ref c_BadSize) (.ref c_OutOfRange) = some false)
    (kit_BadSize_BadSize : PySem.W.kitOne K (.ref c_BadSize) (.ref c_BadSize) = some true)
    (kit_BadSize_OtherSize : PySem.W.kitOne K (.ref c_BadSize) (.ref c_OtherSize) = some false)
    (kit_BadSize_NoPlace : PySem.W.kitOne K (.ref c_BadSize) (.ref c_NoPlace) = some false)
    (kit_BadSize_NoLevel : PySem.W.kitOne K (.ref c_BadSize) (.ref c_NoLevel) = some false)
    (e1_BadSize : PySem.W.findIn K (.ref c_BadSize) "__getattribute__" = some (some (.builtin "BaseException.__getattribute__")))
    (e2_BadSize : PySem.W.findIn K (.ref c_BadSize) "__getattr__" = some none)
    (e3_BadSize : PySem.W.subIn K (.ref c_BadSize) (.type "BaseException") = some true)
    (e4_BadSize : PySem.W.hasDictIn K c_BadSize = true)
    (e5_BadSize : PySem.W.findIn K (.ref c_BadSize) "__class__" = some (some (.builtin "object.__class__")))
    (e8_BadSize : PySem.W.mroIn K c_BadSize (.type "object") = some true)
    (exm_OutOfRange_BadSize : PySem.W.exmOne K (.ref c_OutOfRange) (.ref c_BadSize) = some false)
    (exm_OutOfRange_LadderError : PySem.W.exmOne K (.ref c_OutOfRange) (.ref c_LadderError) = some true)
    (exm_OutOfRange_NoPlace : PySem.W.exmOne K (.ref c_OutOfRange) (.ref c_NoPlace) = some false)
    (exm_OutOfRange_NoLevel : PySem.W.exmOne K (.ref c_OutOfRange) (.ref c_NoLevel) = some false)
    (kit_OutOfRange_ValueError : PySem.W.kitOne K (.ref c_OutOfRange) (.type "ValueError") = some true)
    (kit_OutOfRange_Missing : PySem.W.kitOne K (.ref c_OutOfRange) (.ref c_Missing) = some false)
    (kit_OutOfRange_Present : PySem.W.kitOne K (.ref c_OutOfRange) (.ref c_Present) = some false)
    (kit_OutOfRange_OutOfRange : PySem.W.kitOne K (.ref c_OutOfRange) (.ref c_OutOfRange) = some true)
    (kit_OutOfRange_BadSize : PySem.W.kitOne K (.ref c_OutOfRange) (.ref c_BadSize) = some false)
    (kit_OutOfRange_OtherSize : PySem.W.kitOne K (.ref c_OutOfRange) (.ref c_OtherSize) = some false)
    (kit_OutOfRange_NoPlace : PySem.W.kitOne K (.ref c_OutOfRange) (.ref c_NoPlace) = some false)
    (kit_OutOfRange_NoLevel : PySem.W.kitOne K (.ref c_OutOfRange) (.ref c_NoLevel) = some false)
    (e1_OutOfRange : PySem.W.findIn K (.ref c_OutOfRange) "__getattribute__" = some (some (.builtin "BaseException.__getattribute__")))
    (e2_OutOfRange : PySem.W.findIn K (.ref c_OutOfRange) "__getattr__" = some none)
    (e3_OutOfRange : PySem.W.subIn K (.ref c_OutOfRange) (.type "BaseException") = some true)
    (e4_OutOfRange : PySem.W.hasDictIn K c_OutOfRange = true)
    (e5_OutOfRange : PySem.W.findIn K (.ref c_OutOfRange) "__class__" = some (some (.builtin "object.__class__")))
    (e8_OutOfRange : PySem.W.mroIn K c_OutOfRange (.type "object") = some true)
    (exm_Present_BadSize : PySem.W.exmOne K (.ref c_Present) (.ref c_BadSize) = some false)
    (exm_Present_LadderError : PySem.W.exmOne K (.ref c_Present) (.ref c_LadderError) = some true)
    (exm_Present_NoPlace : PySem.W.exmOne K (.ref c_Present) (.ref c_NoPlace) = some false)
    (exm_Present_NoLevel : PySem.W.exmOne K (.ref c_Present) (.ref c_NoLevel) = some false)
    (kit_Present_ValueError : PySem.W.kitOne K (.ref c_Present) (.type "ValueError") = some true)
    (kit_Present_Missing : PySem.W.kitOne K (.ref c_Present) (.ref c_Missing) = some false)
    (kit_Present_Present : PySem.W.kitOne K (.ref c_Present) (.ref c_Present) = some true)
    (kit_Present_OutOfRange : PySem.W.kitOne K (.ref c_Present) (.ref c_OutOfRange) = some false)
    (kit_Present_BadSize : PySem.W.kitOne K (.ref c_Present) (.ref c_BadSize) = some false)
    (kit_Present_OtherSize : PySem.W.kitOne K (.ref c_Present) (.ref c_OtherSize) = some false)
    (kit_Present_NoPlace : PySem.W.kitOne K (.ref c_Present) (.ref c_NoPlace) = some false)
    (kit_Present_NoLevel : PySem.W.kitOne K (.ref c_Present) (.ref c_NoLevel) = some false)
    (e1_Present : PySem.W.findIn K (.ref c_Present) "__getattribute__" = some (some (.builtin "BaseException.__getattribute__")))
    (e2_Present : PySem.W.findIn K (.ref c_Present) "__getattr__" = some none)
    (e3_Present : PySem.W.subIn K (.ref c_Present) (.type "BaseException") = some true)
    (e4_Present : PySem.W.hasDictIn K c_Present = true)
    (e5_Present : PySem.W.findIn K (.ref c_Present) "__class__" = some (some (.builtin "object.__class__")))
    (e8_Present : PySem.W.mroIn K c_Present (.type "object") = some true)
    (exm_Missing_BadSize : PySem.W.exmOne K (.ref c_Missing) (.ref c_BadSize) = some false)
    (exm_Missing_LadderError : PySem.W.exmOne K (.ref c_Missing) (.ref c_LadderError) = some true)
    (exm_Missing_NoPlace : PySem.W.exmOne K (.ref c_Missing) (.ref c_NoPlace) = some false)
    (exm_Missing_NoLevel : PySem.W.exmOne K (.ref c_Missing) (.ref c_NoLevel) = some false)
    (kit_Missing_ValueError : PySem.W.kitOne K (.ref c_Missing) (.type "ValueError") = some true)
    (kit_Missing_Missing : PySem.W.kitOne K (.ref c_Missing) (.ref c_Missing) = some true)
    (kit_Missing_Present : PySem.W.kitOne K (.ref c_Missing) (.ref c_Present) = some false)
    (kit_Missing_OutOfRange : PySem.W.kitOne K (.ref c_Missing) (.ref c_OutOfRange) = some false)
    (kit_Missing_BadSize : PySem.W.kitOne K (.ref c_Missing) (.ref c_BadSize) = some false)
    (kit_Missing_OtherSize : PySem.W.kitOne K (.ref c_Missing) (.ref c_OtherSize) = some false)
    (kit_Missing_NoPlace : PySem.W.kitOne K (.ref c_Missing) (.ref c_NoPlace) = some false)
    (kit_Missing_NoLevel : PySem.W.kitOne K (.ref c_Missing) (.ref c_NoLevel) = some false)
    (e1_Missing : PySem.W.findIn K (.ref c_Missing) "__getattribute__" = some (some (.builtin "BaseException.__getattribute__")))
    (e2_Missing : PySem.W.findIn K (.ref c_Missing) "__getattr__" = some none)
    (e3_Missing : PySem.W.subIn K (.ref c_Missing) (.type "BaseException") = some true)
    (e4_Missing : PySem.W.hasDictIn K c_Missing = true)
    (e5_Missing : PySem.W.findIn K (.ref c_Missing) "__class__" = some (some (.builtin "object.__class__")))
    (e8_Missing : PySem.W.mroIn K c_Missing (.type "object") = some true)
    (exm_NoLevel_BadSize : PySem.W.exmOne K (.ref c_NoLevel) (.ref c_BadSize) = some false)
    (exm_NoLevel_LadderError : PySem.W.exmOne K (.ref c_NoLevel) (.ref c_LadderError) = some true)
    (exm_NoLevel_NoPlace : PySem.W.exmOne K (.ref c_NoLevel) (.ref c_NoPlace) = some false)
    (exm_NoLevel_NoLevel : PySem.W.exmOne K (.ref c_NoLevel) (.ref c_NoLevel) = some true)
    (kit_NoLevel_ValueError : PySem.W.kitOne K (.ref c_NoLevel) (.type "ValueError") = some true)
    (kit_NoLevel_Missing : PySem.W.kitOne K (.ref c_NoLevel) (.ref c_Missing) = some false)
    (kit_NoLevel_Present : PySem.W.kitOne K (.ref c_NoLevel) (.ref c_Present) = some false)
    (kit_NoLevel_OutOfRange : PySem.W.kitOne K (.ref c_NoLevel) (.ref c_OutOfRange) = some false)
    (kit_NoLevel_BadSize : PySem.W.kitOne K (.ref c_NoLevel) (.ref c_BadSize) = some false)
    (kit_NoLevel_OtherSize : PySem.W.kitOne K (.ref c_NoLevel) (.ref c_OtherSize) = some false)
    (kit_NoLevel_NoPlace : PySem.W.kitOne K (.ref c_NoLevel) (.ref c_NoPlace) = some false)
    (kit_NoLevel_NoLevel : PySem.W.kitOne K (.ref c_NoLevel) (.ref c_NoLevel) = some true)
    (e1_NoLevel : PySem.W.findIn K (.ref c_NoLevel) "__getattribute__" = some (some (.builtin "BaseException.__getattribute__")))
    (e2_NoLevel : PySem.W.findIn K (.ref c_NoLevel) "__getattr__" = some none)
    (e3_NoLevel : PySem.W.subIn K (.ref c_NoLevel) (.type "BaseException") = some true)
    (e4_NoLevel : PySem.W.hasDictIn K c_NoLevel = true)
    (e5_NoLevel : PySem.W.findIn K (.ref c_NoLevel) "__class__" = some (some (.builtin "object.__class__")))
    (e8_NoLevel : PySem.W.mroIn K c_NoLevel (.type "object") = some true)
    (exm_NoPlace_BadSize : PySem.W.exmOne K (.ref c_NoPlace) (.ref c_BadSize) = some false)
    (exm_NoPlace_LadderError : PySem.W.exmOne K (.ref c_NoPlace) (.ref c_LadderError) = some true)
    (exm_NoPlace_NoPlace : PySem.W.exmOne K (.ref c_NoPlace) (.ref c_NoPlace) = some true)
    (exm_NoPlace_NoLevel : PySem.W.exmOne K (.ref c_NoPlace) (.ref c_NoLevel) = some false)
    (kit_NoPlace_ValueError : PySem.W.kitOne K (.ref c_NoPlace) (.type "ValueError") = some true)
    (kit_NoPlace_Missing : PySem.W.kitOne K (.ref c_NoPlace) (.ref c_Missing) = some false)
    (kit_NoPlace_Present : PySem.W.kitOne K (.ref c_NoPlace) (.ref c_Present) = some false)
    (kit_NoPlace_OutOfRange : PySem.W.kitOne K (.ref c_NoPlace) (.ref c_OutOfRange) = some false)
    (kit_NoPlace_BadSize : PySem.W.kitOne K (.ref c_NoPlace) (.ref c_BadSize) = some false)
    (kit_NoPlace_OtherSize : PySem.W.kitOne K (.ref c_NoPlace) (.ref c_OtherSize) = some false)
    (kit_NoPlace_NoPlace : PySem.W.kitOne K (.ref c_NoPlace) (.ref c_NoPlace) = some true)
    (kit_NoPlace_NoLevel : PySem.W.kitOne K (.ref c_NoPlace) (.ref c_NoLevel) = some false)
    (e1_NoPlace : PySem.W.findIn K (.ref c_NoPlace) "__getattribute__" = some (some (.builtin "BaseException.__getattribute__")))
    (e2_NoPlace : PySem.W.findIn K (.ref c_NoPlace) "__getattr__" = some none)
    (e3_NoPlace : PySem.W.subIn K (.ref c_NoPlace) (.type "BaseException") = some true)
    (e4_NoPlace : PySem.W.hasDictIn K c_NoPlace = true)
    (e5_NoPlace : PySem.W.findIn K (.ref c_NoPlace) "__class__" = some (some (.builtin "object.__class__")))
    (e8_NoPlace : PySem.W.mroIn K c_NoPlace (.type "object") = some true)
    (exm_OtherSize_BadSize : PySem.W.exmOne K (.ref c_OtherSize) (.ref c_BadSize) = some false)
    (exm_OtherSize_LadderError : PySem.W.exmOne K (.ref c_OtherSize) (.ref c_LadderError) = some true)
    (exm_OtherSize_NoPlace : PySem.W.exmOne K (.ref c_OtherSize) (.ref c_NoPlace) = some false)
    (exm_OtherSize_NoLevel : PySem.W.exmOne K (.ref c_OtherSize) (.ref c_NoLevel) = some false)
    (kit_OtherSize_ValueError : PySem.W.kitOne K (.ref c_OtherSize) (.type "ValueError") = some true)
    (kit_OtherSize_Missing : PySem.W.kitOne K (.ref c_OtherSize) (.ref c_Missing) = some false)
    (kit_OtherSize_Present : PySem.W.kitOne K (.ref c_OtherSize) (.ref c_Present) = some false)
    (kit_OtherSize_OutOfRange : PySem.W.kitOne K (.ref c_OtherSize) (.ref c_OutOfRange) = some false)
    (kit_OtherSize_BadSize : PySem.W.kitOne K (.ref c_OtherSize) (.ref c_BadSize) = some false)
    (kit_OtherSize_OtherSize : PySem.W.kitOne K (.ref c_OtherSize) (.ref c_OtherSize) = some true)
    (kit_OtherSize_NoPlace : PySem.W.kitOne K (.ref c_OtherSize) (.ref c_NoPlace) = some false)
    (kit_OtherSize_NoLevel : PySem.W.kitOne K (.ref c_OtherSize) (.ref c_NoLevel) = some false)
    (e1_OtherSize : PySem.W.findIn K (.ref c_OtherSize) "__getattribute__" = some (some (.builtin "BaseException.__getattribute__")))
    (e2_OtherSize : PySem.W.findIn K (.ref c_OtherSize) "__getattr__" = some none)
    (e3_OtherSize : PySem.W.subIn K (.ref c_OtherSize) (.type "BaseException") = some true)
    (e4_OtherSize : PySem.W.hasDictIn K c_OtherSize = true)
    (e5_OtherSize : PySem.W.findIn K (.ref c_OtherSize) "__class__" = some (some (.builtin "object.__class__")))
    (e8_OtherSize : PySem.W.mroIn K c_OtherSize (.type "object") = some true)
    (e6 : PySem.W.specialIn K (.builtin "object.__class__") "__get__" = some (some (.builtin "getset_descriptor.__get__")))
    (e7 : PySem.W.takesIn K (.builtin "object.__class__") = some true)
    : ∃ fd : FuncData, (∀ (s : Shared) (v : Value), BindsTo s fd ⟨[v], []⟩ [("_law_script", v)]) ∧ ∀ base : Heap, K.In base → base.Ns mainGlobals mg → FnOk l.prog w K mg base CX0 25 fa fd ["_law_script"] (sp_law K) := by
  have e := hfa.symm.trans (PySem.W.mg_of X G a_law)
  cases e
  have F_power := fun_mk (st := s_power) l_power c_power k_power
  have bd_power := F_power.binds (ps := ["width", "level"]) fun _ _ _ _ _ _ us hl => match us, hl with | [_, _], _ => rfl
  have F_block := fun_mk (st := s_block) l_block c_block k_block
  have bd_block := F_block.binds (ps := ["width", "level", "number"]) fun _ _ _ _ _ _ us hl => match us, hl with | [_, _, _], _ => rfl
  have F_thinned := fun_mk (st := s_thinned) l_thinned c_thinned k_thinned
  have bd_thinned := F_thinned.binds (ps := ["width", "level", "row"]) fun _ _ _ _ _ _ us hl => match us, hl with | [_, _, _], _ => rfl
  have F_tall := fun_mk (st := s_tall) l_tall c_tall k_tall
  have bd_tall := F_tall.binds (ps := ["width", "high", "before", "number"]) fun _ _ _ _ _ _ us hl => match us, hl with | [_, _, _, _], _ => rfl
  have F_ladder_init := fun_mk (st := s_ladder_init) l_ladder_init c_ladder_init k_ladder_init
  have bd_ladder_init := F_ladder_init.binds (ps := ["self", "width", "high"]) fun _ _ _ _ _ _ us hl => match us, hl with | [_, _, _], _ => rfl
  have F_ladder_put := fun_mk (st := s_ladder_put) l_ladder_put c_ladder_put k_ladder_put
  have bd_ladder_put := F_ladder_put.binds (ps := ["self", "number"]) fun _ _ _ _ _ _ us hl => match us, hl with | [_, _], _ => rfl
  have F_ladder_take := fun_mk (st := s_ladder_take) l_ladder_take c_ladder_take k_ladder_take
  have bd_ladder_take := F_ladder_take.binds (ps := ["self", "number"]) fun _ _ _ _ _ _ us hl => match us, hl with | [_, _], _ => rfl
  have F_ladder_has := fun_mk (st := s_ladder_has) l_ladder_has c_ladder_has k_ladder_has
  have bd_ladder_has := F_ladder_has.binds (ps := ["self", "number"]) fun _ _ _ _ _ _ us hl => match us, hl with | [_, _], _ => rfl
  have F_ladder_row := fun_mk (st := s_ladder_row) l_ladder_row c_ladder_row k_ladder_row
  have bd_ladder_row := F_ladder_row.binds (ps := ["self"]) fun _ _ _ _ _ _ us hl => match us, hl with | [_], _ => rfl
  have F_ladder_level := fun_mk (st := s_ladder_level) l_ladder_level c_ladder_level k_ladder_level
  have bd_ladder_level := F_ladder_level.binds (ps := ["self", "level"]) fun _ _ _ _ _ _ us hl => match us, hl with | [_, _], _ => rfl
  have F_ladder_ahead := fun_mk (st := s_ladder_ahead) l_ladder_ahead c_ladder_ahead k_ladder_ahead
  have bd_ladder_ahead := F_ladder_ahead.binds (ps := ["self", "level", "number"]) fun _ _ _ _ _ _ us hl => match us, hl with | [_, _, _], _ => rfl
  have F_ladder_trail := fun_mk (st := s_ladder_trail) l_ladder_trail c_ladder_trail k_ladder_trail
  have bd_ladder_trail := F_ladder_trail.binds (ps := ["self", "number"]) fun _ _ _ _ _ _ us hl => match us, hl with | [_, _], _ => rfl
  have F_ladder_below := fun_mk (st := s_ladder_below) l_ladder_below c_ladder_below k_ladder_below
  have bd_ladder_below := F_ladder_below.binds (ps := ["self", "number"]) fun _ _ _ _ _ _ us hl => match us, hl with | [_, _], _ => rfl
  have F_ladder_above := fun_mk (st := s_ladder_above) l_ladder_above c_ladder_above k_ladder_above
  have bd_ladder_above := F_ladder_above.binds (ps := ["self", "number"]) fun _ _ _ _ _ _ us hl => match us, hl with | [_, _], _ => rfl
  have F_ladder_place := fun_mk (st := s_ladder_place) l_ladder_place c_ladder_place k_ladder_place
  have bd_ladder_place := F_ladder_place.binds (ps := ["self", "number"]) fun _ _ _ _ _ _ us hl => match us, hl with | [_, _], _ => rfl
  have F_ladder_at := fun_mk (st := s_ladder_at) l_ladder_at c_ladder_at k_ladder_at
  have bd_ladder_at := F_ladder_at.binds (ps := ["self", "place"]) fun _ _ _ _ _ _ us hl => match us, hl with | [_, _], _ => rfl
  have F_ladder_way := fun_mk (st := s_ladder_way) l_ladder_way c_ladder_way k_ladder_way
  have bd_ladder_way := F_ladder_way.binds (ps := ["self", "place"]) fun _ _ _ _ _ _ us hl => match us, hl with | [_, _], _ => rfl
  have F_ladder_stretch := fun_mk (st := s_ladder_stretch) l_ladder_stretch c_ladder_stretch k_ladder_stretch
  have bd_ladder_stretch := F_ladder_stretch.binds (ps := ["self", "low", "high"]) fun _ _ _ _ _ _ us hl => match us, hl with | [_, _, _], _ => rfl
  have F_ladder_counted := fun_mk (st := s_ladder_counted) l_ladder_counted c_ladder_counted k_ladder_counted
  have bd_ladder_counted := F_ladder_counted.binds (ps := ["self", "low", "high"]) fun _ _ _ _ _ _ us hl => match us, hl with | [_, _, _], _ => rfl
  have F_ladder_check_number := fun_mk (st := s_ladder_check_number) l_ladder_check_number c_ladder_check_number k_ladder_check_number
  have bd_ladder_check_number := F_ladder_check_number.binds (ps := ["self", "number"]) fun _ _ _ _ _ _ us hl => match us, hl with | [_, _], _ => rfl
  have F_ladder_check_end := fun_mk (st := s_ladder_check_end) l_ladder_check_end c_ladder_check_end k_ladder_check_end
  have bd_ladder_check_end := F_ladder_check_end.binds (ps := ["self", "number"]) fun _ _ _ _ _ _ us hl => match us, hl with | [_, _], _ => rfl
  have F_ladder_check_level := fun_mk (st := s_ladder_check_level) l_ladder_check_level c_ladder_check_level k_ladder_check_level
  have bd_ladder_check_level := F_ladder_check_level.binds (ps := ["self", "level"]) fun _ _ _ _ _ _ us hl => match us, hl with | [_, _], _ => rfl
  have F_ladder_check_place := fun_mk (st := s_ladder_check_place) l_ladder_check_place c_ladder_check_place k_ladder_check_place
  have bd_ladder_check_place := F_ladder_check_place.binds (ps := ["self", "place"]) fun _ _ _ _ _ _ us hl => match us, hl with | [_, _], _ => rfl
  have F_ladder_spot := fun_mk (st := s_ladder_spot) l_ladder_spot c_ladder_spot k_ladder_spot
  have bd_ladder_spot := F_ladder_spot.binds (ps := ["self", "number"]) fun _ _ _ _ _ _ us hl => match us, hl with | [_, _], _ => rfl
  have F_ladder_at_or_none := fun_mk (st := s_ladder_at_or_none) l_ladder_at_or_none c_ladder_at_or_none k_ladder_at_or_none
  have bd_ladder_at_or_none := F_ladder_at_or_none.binds (ps := ["self", "spot"]) fun _ _ _ _ _ _ us hl => match us, hl with | [_, _], _ => rfl
  have F_ladder_before := fun_mk (st := s_ladder_before) l_ladder_before c_ladder_before k_ladder_before
  have bd_ladder_before := F_ladder_before.binds (ps := ["self", "spot"]) fun _ _ _ _ _ _ us hl => match us, hl with | [_, _], _ => rfl
  have F_ladder_begin := fun_mk (st := s_ladder_begin) l_ladder_begin c_ladder_begin k_ladder_begin
  have bd_ladder_begin := F_ladder_begin.binds (ps := ["self", "level", "number"]) fun _ _ _ _ _ _ us hl => match us, hl with | [_, _, _], _ => rfl
  have F_ladder_reach := fun_mk (st := s_ladder_reach) l_ladder_reach c_ladder_reach k_ladder_reach
  have bd_ladder_reach := F_ladder_reach.binds (ps := ["self", "level", "spot"]) fun _ _ _ _ _ _ us hl => match us, hl with | [_, _, _], _ => rfl
  have F_ladder_heirs := fun_mk (st := s_ladder_heirs) l_ladder_heirs c_ladder_heirs k_ladder_heirs
  have bd_ladder_heirs := F_ladder_heirs.binds (ps := ["self", "number"]) fun _ _ _ _ _ _ us hl => match us, hl with | [_, _], _ => rfl
  have F_ladder_walk := fun_mk (st := s_ladder_walk) l_ladder_walk c_ladder_walk k_ladder_walk
  have bd_ladder_walk := F_ladder_walk.binds (ps := ["self", "last"]) fun _ _ _ _ _ _ us hl => match us, hl with | [_, _], _ => rfl
  have F_poured := fun_mk (st := s_poured) l_poured c_poured k_poured
  have bd_poured := F_poured.binds (ps := ["ladder", "other"]) fun _ _ _ _ _ _ us hl => match us, hl with | [_, _], _ => rfl
  have F_l_whole := fun_mk (st := s_l_whole) l_l_whole c_l_whole k_l_whole
  have bd_l_whole := F_l_whole.binds (ps := ["_law_found"]) fun _ _ _ _ _ _ us hl => match us, hl with | [_], _ => rfl
  have F_l_cell_at := fun_mk (st := s_l_cell_at) l_l_cell_at c_l_cell_at k_l_cell_at
  have bd_l_cell_at := F_l_cell_at.binds (ps := ["_law_script", "_law_k"]) fun _ _ _ _ _ _ us hl => match us, hl with | [_, _], _ => rfl
  have F_l_refused_by_any := fun_mk (st := s_l_refused_by_any) l_l_refused_by_any c_l_refused_by_any k_l_refused_by_any
  have bd_l_refused_by_any := F_l_refused_by_any.binds (ps := ["_law_width", "_law_high"]) fun _ _ _ _ _ _ us hl => match us, hl with | [_, _], _ => rfl
  have F_l_refused := fun_mk (st := s_l_refused) l_l_refused c_l_refused k_l_refused
  have bd_l_refused := F_l_refused.binds (ps := ["_law_width", "_law_high"]) fun _ _ _ _ _ _ us hl => match us, hl with | [_, _], _ => rfl
  have F_l_asked := fun_mk (st := s_l_asked) l_l_asked c_l_asked k_l_asked
  have bd_l_asked := F_l_asked.binds (ps := ["_law_way", "_law_ladder", "_law_far"]) fun _ _ _ _ _ _ us hl => match us, hl with | [_, _, _], _ => rfl
  have F_l_kinds := fun_mk (st := s_l_kinds) l_l_kinds c_l_kinds k_l_kinds
  have bd_l_kinds := F_l_kinds.binds (ps := ["_law_way", "_law_ladder", "_law_far"]) fun _ _ _ _ _ _ us hl => match us, hl with | [_, _, _], _ => rfl
  have F_l_no_place := fun_mk (st := s_l_no_place) l_l_no_place c_l_no_place k_l_no_place
  have bd_l_no_place := F_l_no_place.binds (ps := ["_law_ladder", "_law_place"]) fun _ _ _ _ _ _ us hl => match us, hl with | [_, _], _ => rfl
  have F_l_no_level := fun_mk (st := s_l_no_level) l_l_no_level c_l_no_level k_l_no_level
  have bd_l_no_level := F_l_no_level.binds (ps := ["_law_ladder", "_law_level"]) fun _ _ _ _ _ _ us hl => match us, hl with | [_, _], _ => rfl
  have F_l_empty := fun_mk (st := s_l_empty) l_l_empty c_l_empty k_l_empty
  have bd_l_empty := F_l_empty.binds (ps := ["_law_ladder", "_law_number", "_law_place"]) fun _ _ _ _ _ _ us hl => match us, hl with | [_, _, _], _ => rfl
  have F_law := fun_mk (st := s_law) l_law c_law k_law
  have T : Txt K mg := { f_power := _, fd_power := _, F_power := F_power, bd_power := bd_power, g_power := PySem.W.mg_of X G a_power, f_block := _, fd_block := _, F_block := F_block, bd_block := bd_block, g_block := PySem.W.mg_of X G a_block, f_thinned := _, fd_thinned := _, F_thinned := F_thinned, bd_thinned := bd_thinned, g_thinned := PySem.W.mg_of X G a_thinned, f_tall := _, fd_tall := _, F_tall := F_tall, bd_tall := bd_tall, g_tall := PySem.W.mg_of X G a_tall, f_ladder_init := _, fd_ladder_init := _, F_ladder_init := F_ladder_init, bd_ladder_init := bd_ladder_init, f_ladder_put := _, fd_ladder_put := _, F_ladder_put := F_ladder_put, bd_ladder_put := bd_ladder_put, f_ladder_take := _, fd_ladder_take := _, F_ladder_take := F_ladder_take, bd_ladder_take := bd_ladder_take, f_ladder_has := _, fd_ladder_has := _, F_ladder_has := F_ladder_has, bd_ladder_has := bd_ladder_has, f_ladder_row := _, fd_ladder_row := _, F_ladder_row := F_ladder_row, bd_ladder_row := bd_ladder_row, f_ladder_level := _, fd_ladder_level := _, F_ladder_level := F_ladder_level, bd_ladder_level := bd_ladder_level, f_ladder_ahead := _, fd_ladder_ahead := _, F_ladder_ahead := F_ladder_ahead, bd_ladder_ahead := bd_ladder_ahead, f_ladder_trail := _, fd_ladder_trail := _, F_ladder_trail := F_ladder_trail, bd_ladder_trail := bd_ladder_trail, f_ladder_below := _, fd_ladder_below := _, F_ladder_below := F_ladder_below, bd_ladder_below := bd_ladder_below, f_ladder_above := _, fd_ladder_above := _, F_ladder_above := F_ladder_above, bd_ladder_above := bd_ladder_above, f_ladder_place := _, fd_ladder_place := _, F_ladder_place := F_ladder_place, bd_ladder_place := bd_ladder_place, f_ladder_at := _, fd_ladder_at := _, F_ladder_at := F_ladder_at, bd_ladder_at := bd_ladder_at, f_ladder_way := _, fd_ladder_way := _, F_ladder_way := F_ladder_way, bd_ladder_way := bd_ladder_way, f_ladder_stretch := _, fd_ladder_stretch := _, F_ladder_stretch := F_ladder_stretch, bd_ladder_stretch := bd_ladder_stretch, f_ladder_counted := _, fd_ladder_counted := _, F_ladder_counted := F_ladder_counted, bd_ladder_counted := bd_ladder_counted, f_ladder_check_number := _, fd_ladder_check_number := _, F_ladder_check_number := F_ladder_check_number, bd_ladder_check_number := bd_ladder_check_number, f_ladder_check_end := _, fd_ladder_check_end := _, F_ladder_check_end := F_ladder_check_end, bd_ladder_check_end := bd_ladder_check_end, f_ladder_check_level := _, fd_ladder_check_level := _, F_ladder_check_level := F_ladder_check_level, bd_ladder_check_level := bd_ladder_check_level, f_ladder_check_place := _, fd_ladder_check_place := _, F_ladder_check_place := F_ladder_check_place, bd_ladder_check_place := bd_ladder_check_place, f_ladder_spot := _, fd_ladder_spot := _, F_ladder_spot := F_ladder_spot, bd_ladder_spot := bd_ladder_spot, f_ladder_at_or_none := _, fd_ladder_at_or_none := _, F_ladder_at_or_none := F_ladder_at_or_none, bd_ladder_at_or_none := bd_ladder_at_or_none, f_ladder_before := _, fd_ladder_before := _, F_ladder_before := F_ladder_before, bd_ladder_before := bd_ladder_before, f_ladder_begin := _, fd_ladder_begin := _, F_ladder_begin := F_ladder_begin, bd_ladder_begin := bd_ladder_begin, f_ladder_reach := _, fd_ladder_reach := _, F_ladder_reach := F_ladder_reach, bd_ladder_reach := bd_ladder_reach, f_ladder_heirs := _, fd_ladder_heirs := _, F_ladder_heirs := F_ladder_heirs, bd_ladder_heirs := bd_ladder_heirs, f_ladder_walk := _, fd_ladder_walk := _, F_ladder_walk := F_ladder_walk, bd_ladder_walk := bd_ladder_walk, f_poured := _, fd_poured := _, F_poured := F_poured, bd_poured := bd_poured, g_poured := PySem.W.mg_of X G a_poured, f_l_whole := _, fd_l_whole := _, F_l_whole := F_l_whole, bd_l_whole := bd_l_whole, g_l_whole := PySem.W.mg_of X G a_l_whole, f_l_cell_at := _, fd_l_cell_at := _, F_l_cell_at := F_l_cell_at, bd_l_cell_at := bd_l_cell_at, g_l_cell_at := PySem.W.mg_of X G a_l_cell_at, f_l_refused_by_any := _, fd_l_refused_by_any := _, F_l_refused_by_any := F_l_refused_by_any, bd_l_refused_by_any := bd_l_refused_by_any, g_l_refused_by_any := PySem.W.mg_of X G a_l_refused_by_any, f_l_refused := _, fd_l_refused := _, F_l_refused := F_l_refused, bd_l_refused := bd_l_refused, g_l_refused := PySem.W.mg_of X G a_l_refused, f_l_asked := _, fd_l_asked := _, F_l_asked := F_l_asked, bd_l_asked := bd_l_asked, g_l_asked := PySem.W.mg_of X G a_l_asked, f_l_kinds := _, fd_l_kinds := _, F_l_kinds := F_l_kinds, bd_l_kinds := bd_l_kinds, g_l_kinds := PySem.W.mg_of X G a_l_kinds, f_l_no_place := _, fd_l_no_place := _, F_l_no_place := F_l_no_place, bd_l_no_place := bd_l_no_place, g_l_no_place := PySem.W.mg_of X G a_l_no_place, f_l_no_level := _, fd_l_no_level := _, F_l_no_level := F_l_no_level, bd_l_no_level := bd_l_no_level, g_l_no_level := PySem.W.mg_of X G a_l_no_level, f_l_empty := _, fd_l_empty := _, F_l_empty := F_l_empty, bd_l_empty := bd_l_empty, g_l_empty := PySem.W.mg_of X G a_l_empty, b_ValueError := PySem.W.mg_none_of X G z_ValueError, b_bool := PySem.W.mg_none_of X G z_bool, b_enumerate := PySem.W.mg_none_of X G z_enumerate, b_int := PySem.W.mg_none_of X G z_int, b_isinstance := PySem.W.mg_none_of X G z_isinstance, b_len := PySem.W.mg_none_of X G z_len, b_list := PySem.W.mg_none_of X G z_list, b_range := PySem.W.mg_none_of X G z_range, c_Ladder := _, x_Ladder := PySem.W.mg_of X G aC_Ladder, c_LadderError := _, x_LadderError := PySem.W.mg_of X G aC_LadderError, c_BadSize := _, x_BadSize := PySem.W.mg_of X G aC_BadSize, c_OutOfRange := _, x_OutOfRange := PySem.W.mg_of X G aC_OutOfRange, c_Present := _, x_Present := PySem.W.mg_of X G aC_Present, c_Missing := _, x_Missing := PySem.W.mg_of X G aC_Missing, c_NoLevel := _, x_NoLevel := PySem.W.mg_of X G aC_NoLevel, c_NoPlace := _, x_NoPlace := PySem.W.mg_of X G aC_NoPlace, c_OtherSize := _, x_OtherSize := PySem.W.mg_of X G aC_OtherSize, cl_Ladder := ⟨pg_Ladder, hd_Ladder, po_Ladder, sa_Ladder⟩, mk_Ladder := ⟨ma_Ladder, a_ladder_init, i_ladder_init, kc_Ladder⟩, m_ladder_put := ⟨a_ladder_put, i_ladder_put, k_ladder_put⟩, m_ladder_take := ⟨a_ladder_take, i_ladder_take, k_ladder_take⟩, m_ladder_has := ⟨a_ladder_has, i_ladder_has, k_ladder_has⟩, m_ladder_row := ⟨a_ladder_row, i_ladder_row, k_ladder_row⟩, m_ladder_level := ⟨a_ladder_level, i_ladder_level, k_ladder_level⟩, m_ladder_ahead := ⟨a_ladder_ahead, i_ladder_ahead, k_ladder_ahead⟩, m_ladder_trail := ⟨a_ladder_trail, i_ladder_trail, k_ladder_trail⟩, m_ladder_below := ⟨a_ladder_below, i_ladder_below, k_ladder_below⟩, m_ladder_above := ⟨a_ladder_above, i_ladder_above, k_ladder_above⟩, m_ladder_place := ⟨a_ladder_place, i_ladder_place, k_ladder_place⟩, m_ladder_at := ⟨a_ladder_at, i_ladder_at, k_ladder_at⟩, m_ladder_way := ⟨a_ladder_way, i_ladder_way, k_ladder_way⟩, m_ladder_stretch := ⟨a_ladder_stretch, i_ladder_stretch, k_ladder_stretch⟩, m_ladder_counted := ⟨a_ladder_counted, i_ladder_counted, k_ladder_counted⟩, m_ladder_check_number := ⟨a_ladder_check_number, i_ladder_check_number, k_ladder_check_number⟩, m_ladder_check_end := ⟨a_ladder_check_end, i_ladder_check_end, k_ladder_check_end⟩, m_ladder_check_level := ⟨a_ladder_check_level, i_ladder_check_level, k_ladder_check_level⟩, m_ladder_check_place := ⟨a_ladder_check_place, i_ladder_check_place, k_ladder_check_place⟩, m_ladder_spot := ⟨a_ladder_spot, i_ladder_spot, k_ladder_spot⟩, m_ladder_at_or_none := ⟨a_ladder_at_or_none, i_ladder_at_or_none, k_ladder_at_or_none⟩, m_ladder_before := ⟨a_ladder_before, i_ladder_before, k_ladder_before⟩, m_ladder_begin := ⟨a_ladder_begin, i_ladder_begin, k_ladder_begin⟩, m_ladder_reach := ⟨a_ladder_reach, i_ladder_reach, k_ladder_reach⟩, m_ladder_heirs := ⟨a_ladder_heirs, i_ladder_heirs, k_ladder_heirs⟩, m_ladder_walk := ⟨a_ladder_walk, i_ladder_walk, k_ladder_walk⟩, n_Ladder_width := n_Ladder_width, n_Ladder_high := n_Ladder_high, n_Ladder_limit := n_Ladder_limit, n_Ladder_many := n_Ladder_many, n_Ladder__row := n_Ladder__row, xp_BadSize := xp_BadSize, kp_BadSize := kp_BadSize, bp_BadSize := bp_BadSize, tp_BadSize := tp_BadSize, xp_OutOfRange := xp_OutOfRange, kp_OutOfRange := kp_OutOfRange, bp_OutOfRange := bp_OutOfRange, tp_OutOfRange := tp_OutOfRange, xp_Present := xp_Present, kp_Present := kp_Present, bp_Present := bp_Present, tp_Present := tp_Present, xp_Missing := xp_Missing, kp_Missing := kp_Missing, bp_Missing := bp_Missing, tp_Missing := tp_Missing, xp_NoLevel := xp_NoLevel, kp_NoLevel := kp_NoLevel, bp_NoLevel := bp_NoLevel, tp_NoLevel := tp_NoLevel, xp_NoPlace := xp_NoPlace, kp_NoPlace := kp_NoPlace, bp_NoPlace := bp_NoPlace, tp_NoPlace := tp_NoPlace, xp_OtherSize := xp_OtherSize, kp_OtherSize := kp_OtherSize, bp_OtherSize := bp_OtherSize, tp_OtherSize := tp_OtherSize, exm_BadSize_BadSize := exm_BadSize_BadSize, exm_BadSize_LadderError := exm_BadSize_LadderError, exm_BadSize_NoPlace := exm_BadSize_NoPlace, exm_BadSize_NoLevel := exm_BadSize_NoLevel, kit_BadSize_ValueError := kit_BadSize_ValueError, kit_BadSize_Missing := kit_BadSize_Missing, kit_BadSize_Present := kit_BadSize_Present, kit_BadSize_OutOfRange := kit_BadSize_OutOfRange, kit_BadSize_BadSize := kit_BadSize_BadSize, kit_BadSize_OtherSize := kit_BadSize_OtherSize, kit_BadSize_NoPlace := kit_BadSize_NoPlace, kit_BadSize_NoLevel := kit_BadSize_NoLevel, ec_BadSize := ⟨e1_BadSize, e2_BadSize, e3_BadSize, e4_BadSize, e5_BadSize, e6, e7, e8_BadSize⟩, exm_OutOfRange_BadSize := exm_OutOfRange_BadSize, exm_OutOfRange_LadderError := exm_OutOfRange_LadderError, exm_OutOfRange_NoPlace := exm_OutOfRange_NoPlace, exm_OutOfRange_NoLevel := exm_OutOfRange_NoLevel, kit_OutOfRange_ValueError := kit_OutOfRange_ValueError, kit_OutOfRange_Missing := kit_OutOfRange_Missing, kit_OutOfRange_Present := kit_OutOfRange_Present, kit_OutOfRange_OutOfRange := kit_OutOfRange_OutOfRange, kit_OutOfRange_BadSize := kit_OutOfRange_BadSize, kit_OutOfRange_OtherSize := kit_OutOfRange_OtherSize, kit_OutOfRange_NoPlace := kit_OutOfRange_NoPlace, kit_OutOfRange_NoLevel := kit_OutOfRange_NoLevel, ec_OutOfRange := ⟨e1_OutOfRange, e2_OutOfRange, e3_OutOfRange, e4_OutOfRange, e5_OutOfRange, e6, e7, e8_OutOfRange⟩, exm_Present_BadSize := exm_Present_BadSize, exm_Present_LadderError := exm_Present_LadderError, exm_Present_NoPlace := exm_Present_NoPlace, exm_Present_NoLevel := exm_Present_NoLevel, kit_Present_ValueError := kit_Present_ValueError, kit_Present_Missing := kit_Present_Missing, kit_Present_Present := kit_Present_Present, kit_Present_OutOfRange := kit_Present_OutOfRange, kit_Present_BadSize := kit_Present_BadSize, kit_Present_OtherSize := kit_Present_OtherSize, kit_Present_NoPlace := kit_Present_NoPlace, kit_Present_NoLevel := kit_Present_NoLevel, ec_Present := ⟨e1_Present, e2_Present, e3_Present, e4_Present, e5_Present, e6, e7, e8_Present⟩, exm_Missing_BadSize := exm_Missing_BadSize, exm_Missing_LadderError := exm_Missing_LadderError, exm_Missing_NoPlace := exm_Missing_NoPlace, exm_Missing_NoLevel := exm_Missing_NoLevel, kit_Missing_ValueError := kit_Missing_ValueError, kit_Missing_Missing := kit_Missing_Missing, kit_Missing_Present := kit_Missing_Present, kit_Missing_OutOfRange := kit_Missing_OutOfRange, kit_Missing_BadSize := kit_Missing_BadSize, kit_Missing_OtherSize := kit_Missing_OtherSize, kit_Missing_NoPlace := kit_Missing_NoPlace, kit_Missing_NoLevel := kit_Missing_NoLevel, ec_Missing := ⟨e1_Missing, e2_Missing, e3_Missing, e4_Missing, e5_Missing, e6, e7, e8_Missing⟩, exm_NoLevel_BadSize := exm_NoLevel_BadSize, exm_NoLevel_LadderError := exm_NoLevel_LadderError, exm_NoLevel_NoPlace := exm_NoLevel_NoPlace, exm_NoLevel_NoLevel := exm_NoLevel_NoLevel, kit_NoLevel_ValueError := kit_NoLevel_ValueError, kit_NoLevel_Missing := kit_NoLevel_Missing, kit_NoLevel_Present := kit_NoLevel_Present, kit_NoLevel_OutOfRange := kit_NoLevel_OutOfRange, kit_NoLevel_BadSize := kit_NoLevel_BadSize, kit_NoLevel_OtherSize := kit_NoLevel_OtherSize, kit_NoLevel_NoPlace := kit_NoLevel_NoPlace, kit_NoLevel_NoLevel := kit_NoLevel_NoLevel, ec_NoLevel := ⟨e1_NoLevel, e2_NoLevel, e3_NoLevel, e4_NoLevel, e5_NoLevel, e6, e7, e8_NoLevel⟩, exm_NoPlace_BadSize := exm_NoPlace_BadSize, exm_NoPlace_LadderError := exm_NoPlace_LadderError, exm_NoPlace_NoPlace := exm_NoPlace_NoPlace, exm_NoPlace_NoLevel := exm_NoPlace_NoLevel, kit_NoPlace_ValueError := kit_NoPlace_ValueError, kit_NoPlace_Missing := kit_NoPlace_Missing, kit_NoPlace_Present := kit_NoPlace_Present, kit_NoPlace_OutOfRange := kit_NoPlace_OutOfRange, kit_NoPlace_BadSize := kit_NoPlace_BadSize, kit_NoPlace_OtherSize := kit_NoPlace_OtherSize, kit_NoPlace_NoPlace := kit_NoPlace_NoPlace, kit_NoPlace_NoLevel := kit_NoPlace_NoLevel, ec_NoPlace := ⟨e1_NoPlace, e2_NoPlace, e3_NoPlace, e4_NoPlace, e5_NoPlace, e6, e7, e8_NoPlace⟩, exm_OtherSize_BadSize := exm_OtherSize_BadSize, exm_OtherSize_LadderError := exm_OtherSize_LadderError, exm_OtherSize_NoPlace := exm_OtherSize_NoPlace, exm_OtherSize_NoLevel := exm_OtherSize_NoLevel, kit_OtherSize_ValueError := kit_OtherSize_ValueError, kit_OtherSize_Missing := kit_OtherSize_Missing, kit_OtherSize_Present := kit_OtherSize_Present, kit_OtherSize_OutOfRange := kit_OtherSize_OutOfRange, kit_OtherSize_BadSize := kit_OtherSize_BadSize, kit_OtherSize_OtherSize := kit_OtherSize_OtherSize, kit_OtherSize_NoPlace := kit_OtherSize_NoPlace, kit_OtherSize_NoLevel := kit_OtherSize_NoLevel, ec_OtherSize := ⟨e1_OtherSize, e2_OtherSize, e3_OtherSize, e4_OtherSize, e5_OtherSize, e6, e7, e8_OtherSize⟩ }
  exact ⟨PySem.W.fnOf "law" "law" (defArgs s_law) (defBody s_law) (defScope s_law) .none kV_law dc_law pm_law an_law cd_law ct_law, fun s v => .of_eq rfl, fun base _ _ => ok_law F_law T (theRep T) (theProg T)⟩
end Sk
open PySem PySem.W PyProof.Rows
set_option maxRecDepth 100000 in
set_option maxHeartbeats 0 in
theorem PySem.Challenge.cw_skipladder_k04_sizes_holds : PySem.Challenge.rw_skipladder_k04_sizes.Holds := by
  w_on; o_law; k_head; (case hw => w_witness2)
  k_fill
  refine L2.walk_of (l := PySem.Challenge.rw_skipladder_k04_sizes) (n := 63) (k := 25) (x := "_law_script") (CX := fun _ => L2.CX0) (sp := fun w => Sk.sp_law _) rfl (by decide) rfl ⟨rfl, by decide, by decide⟩ (fun w h Y => PySem.W.kIn_of Y) ?F (fun _ _ a ns hl _ hS => ⟨a, ns, rfl, hS, hl, fun _ => rfl⟩) (fun _ _ _ _ _ h => h)
  case F =>
    intro w mg fa h KX G hmg
    refine' Sk.all_mk KX G hmg ?aC_Ladder ?aC_LadderError ?aC_BadSize ?aC_OutOfRange ?aC_Present ?aC_Missing ?aC_NoLevel ?aC_NoPlace ?aC_OtherSize ?a_power ?l_power ?c_power ?k_power ?a_block ?l_block ?c_block ?k_block ?a_thinned ?l_thinned ?c_thinned ?k_thinned ?a_tall ?l_tall ?c_tall ?k_tall ?a_ladder_init ?l_ladder_init ?c_ladder_init ?k_ladder_init ?a_ladder_put ?l_ladder_put ?c_ladder_put ?k_ladder_put ?a_ladder_take ?l_ladder_take ?c_ladder_take ?k_ladder_take ?a_ladder_has ?l_ladder_has ?c_ladder_has ?k_ladder_has ?a_ladder_row ?l_ladder_row ?c_ladder_row ?k_ladder_row ?a_ladder_level ?l_ladder_level ?c_ladder_level ?k_ladder_level ?a_ladder_ahead ?l_ladder_ahead ?c_ladder_ahead ?k_ladder_ahead ?a_ladder_trail ?l_ladder_trail ?c_ladder_trail ?k_ladder_trail ?a_ladder_below ?l_ladder_below ?c_ladder_below ?k_ladder_below ?a_ladder_above ?l_ladder_above ?c_ladder_above ?k_ladder_above ?a_ladder_place ?l_ladder_place ?c_ladder_place ?k_ladder_place ?a_ladder_at ?l_ladder_at ?c_ladder_at ?k_ladder_at ?a_ladder_way ?l_ladder_way ?c_ladder_way ?k_ladder_way ?a_ladder_stretch ?l_ladder_stretch ?c_ladder_stretch ?k_ladder_stretch ?a_ladder_counted ?l_ladder_counted ?c_ladder_counted ?k_ladder_counted ?a_ladder_check_number ?l_ladder_check_number ?c_ladder_check_number ?k_ladder_check_number ?a_ladder_check_end ?l_ladder_check_end ?c_ladder_check_end ?k_ladder_check_end ?a_ladder_check_level ?l_ladder_check_level ?c_ladder_check_level ?k_ladder_check_level ?a_ladder_check_place ?l_ladder_check_place ?c_ladder_check_place ?k_ladder_check_place ?a_ladder_spot ?l_ladder_spot ?c_ladder_spot ?k_ladder_spot ?a_ladder_at_or_none ?l_ladder_at_or_none ?c_ladder_at_or_none ?k_ladder_at_or_none ?a_ladder_before ?l_ladder_before ?c_ladder_before ?k_ladder_before ?a_ladder_begin ?l_ladder_begin ?c_ladder_begin ?k_ladder_begin ?a_ladder_reach ?l_ladder_reach ?c_ladder_reach ?k_ladder_reach ?a_ladder_heirs ?l_ladder_heirs ?c_ladder_heirs ?k_ladder_heirs ?a_ladder_walk ?l_ladder_walk ?c_ladder_walk ?k_ladder_walk ?a_poured ?l_poured ?c_poured ?k_poured ?a_l_whole ?l_l_whole ?c_l_whole ?k_l_whole ?a_l_cell_at ?l_l_cell_at ?c_l_cell_at ?k_l_cell_at ?a_l_refused_by_any ?l_l_refused_by_any ?c_l_refused_by_any ?k_l_refused_by_any ?a_l_refused ?l_l_refused ?c_l_refused ?k_l_refused ?a_l_asked ?l_l_asked ?c_l_asked ?k_l_asked ?a_l_kinds ?l_l_kinds ?c_l_kinds ?k_l_kinds ?a_l_no_place ?l_l_no_place ?c_l_no_place ?k_l_no_place ?a_l_no_level ?l_l_no_level ?c_l_no_level ?k_l_no_level ?a_l_empty ?l_l_empty ?c_l_empty ?k_l_empty ?a_law ?l_law ?c_law ?k_law ?z_ValueError ?z_bool ?z_enumerate ?z_int ?z_isinstance ?z_len ?z_list ?z_range ?pg_Ladder ?hd_Ladder ?po_Ladder ?sa_Ladder ?ma_Ladder ?kc_Ladder ?i_ladder_init ?i_ladder_put ?i_ladder_take ?i_ladder_has ?i_ladder_row ?i_ladder_level ?i_ladder_ahead ?i_ladder_trail ?i_ladder_below ?i_ladder_above ?i_ladder_place ?i_ladder_at ?i_ladder_way ?i_ladder_stretch ?i_ladder_counted ?i_ladder_check_number ?i_ladder_check_end ?i_ladder_check_level ?i_ladder_check_place ?i_ladder_spot ?i_ladder_at_or_none ?i_ladder_before ?i_ladder_begin ?i_ladder_reach ?i_ladder_heirs ?i_ladder_walk ?n_Ladder_width ?n_Ladder_high ?n_Ladder_limit ?n_Ladder_many ?n_Ladder__row ?xp_BadSize ?kp_BadSize ?bp_BadSize ?tp_BadSize ?xp_OutOfRange ?kp_OutOfRange ?bp_OutOfRange ?tp_OutOfRange ?xp_Present ?kp_Present ?bp_Present ?tp_Present ?xp_Missing ?kp_Missing ?bp_Missing ?tp_Missing ?xp_NoLevel ?kp_NoLevel ?bp_NoLevel ?tp_NoLevel ?xp_NoPlace ?kp_NoPlace ?bp_NoPlace ?tp_NoPlace ?xp_OtherSize ?kp_OtherSize ?bp_OtherSize ?tp_OtherSize ?exm_BadSize_BadSize ?exm_BadSize_LadderError ?exm_BadSize_NoPlace ?exm_BadSize_NoLevel ?kit_BadSize_ValueError ?kit_BadSize_Missing ?kit_BadSize_Present ?kit_BadSize_OutOfRange ?kit_BadSize_BadSize ?kit_BadSize_OtherSize ?kit_BadSize_NoPlace ?kit_BadSize_NoLevel ?e1_BadSize ?e2_BadSize ?e3_BadSize ?e4_BadSize ?e5_BadSize ?e8_BadSize ?exm_OutOfRange_BadSize ?exm_OutOfRange_LadderError ?exm_OutOfRange_NoPlace ?exm_OutOfRange_NoLevel ?kit_OutOfRange_ValueError ?kit_OutOfRange_Missing ?kit_OutOfRange_Present ?kit_OutOfRange_OutOfRange ?kit_OutOfRange_BadSize ?kit_OutOfRange_OtherSize ?kit_OutOfRange_NoPlace ?kit_OutOfRange_NoLevel ?e1_OutOfRange ?e2_OutOfRange ?e3_OutOfRange ?e4_OutOfRange ?e5_OutOfRange ?e8_OutOfRange ?exm_Present_BadSize ?exm_Present_LadderError ?exm_Present_NoPlace ?exm_Present_NoLevel ?kit_Present_ValueError ?kit_Present_Missing ?kit_Present_Present ?kit_Present_OutOfRange ?kit_Present_BadSize ?kit_Present_OtherSize ?kit_Present_NoPlace ?kit_Present_NoLevel ?e1_Present ?e2_Present ?e3_Present ?e4_Present ?e5_Present ?e8_Present ?exm_Missing_BadSize ?exm_Missing_LadderError ?exm_Missing_NoPlace ?exm_Missing_NoLevel ?kit_Missing_ValueError ?kit_Missing_Missing ?kit_Missing_Present ?kit_Missing_OutOfRange ?kit_Missing_BadSize ?kit_Missing_OtherSize ?kit_Missing_NoPlace ?kit_Missing_NoLevel ?e1_Missing ?e2_Missing ?e3_Missing ?e4_Missing ?e5_Missing ?e8_Missing ?exm_NoLevel_BadSize ?exm_NoLevel_LadderError ?exm_NoLevel_NoPlace ?exm_NoLevel_NoLevel ?kit_NoLevel_ValueError ?kit_NoLevel_Missing ?kit_NoLevel_Present ?kit_NoLevel_OutOfRange ?kit_NoLevel_BadSize ?kit_NoLevel_OtherSize ?kit_NoLevel_NoPlace ?kit_NoLevel_NoLevel ?e1_NoLevel ?e2_NoLevel ?e3_NoLevel ?e4_NoLevel ?e5_NoLevel ?e8_NoLevel ?exm_NoPlace_BadSize ?exm_NoPlace_LadderError ?exm_NoPlace_NoPlace ?exm_NoPlace_NoLevel ?kit_NoPlace_ValueError ?kit_NoPlace_Missing ?kit_NoPlace_Present ?kit_NoPlace_OutOfRange ?kit_NoPlace_BadSize ?kit_NoPlace_OtherSize ?kit_NoPlace_NoPlace ?kit_NoPlace_NoLevel ?e1_NoPlace ?e2_NoPlace ?e3_NoPlace ?e4_NoPlace ?e5_NoPlace ?e8_NoPlace ?exm_OtherSize_BadSize ?exm_OtherSize_LadderError ?exm_OtherSize_NoPlace ?exm_OtherSize_NoLevel ?kit_OtherSize_ValueError ?kit_OtherSize_Missing ?kit_OtherSize_Present ?kit_OtherSize_OutOfRange ?kit_OtherSize_BadSize ?kit_OtherSize_OtherSize ?kit_OtherSize_NoPlace ?kit_OtherSize_NoLevel ?e1_OtherSize ?e2_OtherSize ?e3_OtherSize ?e4_OtherSize ?e5_OtherSize ?e8_OtherSize ?e6 ?e7
    (case aC_Ladder => k_is)
    (case aC_LadderError => k_is)
    (case aC_BadSize => k_is)
    (case aC_OutOfRange => k_is)
    (case aC_Present => k_is)
    (case aC_Missing => k_is)
    (case aC_NoLevel => k_is)
    (case aC_NoPlace => k_is)
    (case aC_OtherSize => k_is)
    (case a_power => k_is)
    (case l_power => k_is)
    (case c_power => k_is)
    (case k_power => k_is)
    (case a_block => k_is)
    (case l_block => k_is)
    (case c_block => k_is)
    (case k_block => k_is)
    (case a_thinned => k_is)
    (case l_thinned => k_is)
    (case c_thinned => k_is)
    (case k_thinned => k_is)
    (case a_tall => k_is)
    (case l_tall => k_is)
    (case c_tall => k_is)
    (case k_tall => k_is)
    (case a_ladder_init => k_is)
    (case l_ladder_init => k_is)
    (case c_ladder_init => k_is)
    (case k_ladder_init => k_is)
    (case a_ladder_put => k_is)
    (case l_ladder_put => k_is)
    (case c_ladder_put => k_is)
    (case k_ladder_put => k_is)
    (case a_ladder_take => k_is)
    (case l_ladder_take => k_is)
    (case c_ladder_take => k_is)
    (case k_ladder_take => k_is)
    (case a_ladder_has => k_is)
    (case l_ladder_has => k_is)
    (case c_ladder_has => k_is)
    (case k_ladder_has => k_is)
    (case a_ladder_row => k_is)
    (case l_ladder_row => k_is)
    (case c_ladder_row => k_is)
    (case k_ladder_row => k_is)
    (case a_ladder_level => k_is)
    (case l_ladder_level => k_is)
    (case c_ladder_level => k_is)
    (case k_ladder_level => k_is)
    (case a_ladder_ahead => k_is)
    (case l_ladder_ahead => k_is)
    (case c_ladder_ahead => k_is)
    (case k_ladder_ahead => k_is)
    (case a_ladder_trail => k_is)
    (case l_ladder_trail => k_is)
    (case c_ladder_trail => k_is)
    (case k_ladder_trail => k_is)
    (case a_ladder_below => k_is)
    (case l_ladder_below => k_is)
    (case c_ladder_below => k_is)
    (case k_ladder_below => k_is)
    (case a_ladder_above => k_is)
    (case l_ladder_above => k_is)
    (case c_ladder_above => k_is)
    (case k_ladder_above => k_is)
    (case a_ladder_place => k_is)
    (case l_ladder_place => k_is)
    (case c_ladder_place => k_is)
    (case k_ladder_place => k_is)
    (case a_ladder_at => k_is)
    (case l_ladder_at => k_is)
    (case c_ladder_at => k_is)
    (case k_ladder_at => k_is)
    (case a_ladder_way => k_is)
    (case l_ladder_way => k_is)
    (case c_ladder_way => k_is)
    (case k_ladder_way => k_is)
    (case a_ladder_stretch => k_is)
    (case l_ladder_stretch => k_is)
    (case c_ladder_stretch => k_is)
    (case k_ladder_stretch => k_is)
    (case a_ladder_counted => k_is)
    (case l_ladder_counted => k_is)
    (case c_ladder_counted => k_is)
    (case k_ladder_counted => k_is)
    (case a_ladder_check_number => k_is)
    (case l_ladder_check_number => k_is)
    (case c_ladder_check_number => k_is)
    (case k_ladder_check_number => k_is)
    (case a_ladder_check_end => k_is)
    (case l_ladder_check_end => k_is)
    (case c_ladder_check_end => k_is)
    (case k_ladder_check_end => k_is)
    (case a_ladder_check_level => k_is)
    (case l_ladder_check_level => k_is)
    (case c_ladder_check_level => k_is)
    (case k_ladder_check_level => k_is)
    (case a_ladder_check_place => k_is)
    (case l_ladder_check_place => k_is)
    (case c_ladder_check_place => k_is)
    (case k_ladder_check_place => k_is)
    (case a_ladder_spot => k_is)
    (case l_ladder_spot => k_is)
    (case c_ladder_spot => k_is)
    (case k_ladder_spot => k_is)
    (case a_ladder_at_or_none => k_is)
    (case l_ladder_at_or_none => k_is)
    (case c_ladder_at_or_none => k_is)
    (case k_ladder_at_or_none => k_is)
    (case a_ladder_before => k_is)
    (case l_ladder_before => k_is)
    (case c_ladder_before => k_is)
    (case k_ladder_before => k_is)
    (case a_ladder_begin => k_is)
    (case l_ladder_begin => k_is)
    (case c_ladder_begin => k_is)
    (case k_ladder_begin => k_is)
    (case a_ladder_reach => k_is)
    (case l_ladder_reach => k_is)
    (case c_ladder_reach => k_is)
    (case k_ladder_reach => k_is)
    (case a_ladder_heirs => k_is)
    (case l_ladder_heirs => k_is)
    (case c_ladder_heirs => k_is)
    (case k_ladder_heirs => k_is)
    (case a_ladder_walk => k_is)
    (case l_ladder_walk => k_is)
    (case c_ladder_walk => k_is)
    (case k_ladder_walk => k_is)
    (case a_poured => k_is)
    (case l_poured => k_is)
    (case c_poured => k_is)
    (case k_poured => k_is)
    (case a_l_whole => k_is)
    (case l_l_whole => k_is)
    (case c_l_whole => k_is)
    (case k_l_whole => k_is)
    (case a_l_cell_at => k_is)
    (case l_l_cell_at => k_is)
    (case c_l_cell_at => k_is)
    (case k_l_cell_at => k_is)
    (case a_l_refused_by_any => k_is)
    (case l_l_refused_by_any => k_is)
    (case c_l_refused_by_any => k_is)
    (case k_l_refused_by_any => k_is)
    (case a_l_refused => k_is)
    (case l_l_refused => k_is)
    (case c_l_refused => k_is)
    (case k_l_refused => k_is)
    (case a_l_asked => k_is)
    (case l_l_asked => k_is)
    (case c_l_asked => k_is)
    (case k_l_asked => k_is)
    (case a_l_kinds => k_is)
    (case l_l_kinds => k_is)
    (case c_l_kinds => k_is)
    (case k_l_kinds => k_is)
    (case a_l_no_place => k_is)
    (case l_l_no_place => k_is)
    (case c_l_no_place => k_is)
    (case k_l_no_place => k_is)
    (case a_l_no_level => k_is)
    (case l_l_no_level => k_is)
    (case c_l_no_level => k_is)
    (case k_l_no_level => k_is)
    (case a_l_empty => k_is)
    (case l_l_empty => k_is)
    (case c_l_empty => k_is)
    (case k_l_empty => k_is)
    (case a_law => k_is)
    (case l_law => k_is)
    (case c_law => k_is)
    (case k_law => k_is)
    (case z_ValueError => k_is)
    (case z_bool => k_is)
    (case z_enumerate => k_is)
    (case z_int => k_is)
    (case z_isinstance => k_is)
    (case z_len => k_is)
    (case z_list => k_is)
    (case z_range => k_is)
    (case pg_Ladder => k_is)
    (case hd_Ladder => k_is)
    (case po_Ladder => k_is)
    (case sa_Ladder => k_is)
    (case ma_Ladder => k_is)
    (case kc_Ladder => k_is)
    (case i_ladder_init => k_is)
    (case i_ladder_put => k_is)
    (case i_ladder_take => k_is)
    (case i_ladder_has => k_is)
    (case i_ladder_row => k_is)
    (case i_ladder_level => k_is)
    (case i_ladder_ahead => k_is)
    (case i_ladder_trail => k_is)
    (case i_ladder_below => k_is)
    (case i_ladder_above => k_is)
    (case i_ladder_place => k_is)
    (case i_ladder_at => k_is)
    (case i_ladder_way => k_is)
    (case i_ladder_stretch => k_is)
    (case i_ladder_counted => k_is)
    (case i_ladder_check_number => k_is)
    (case i_ladder_check_end => k_is)
    (case i_ladder_check_level => k_is)
    (case i_ladder_check_place => k_is)
    (case i_ladder_spot => k_is)
    (case i_ladder_at_or_none => k_is)
    (case i_ladder_before => k_is)
    (case i_ladder_begin => k_is)
    (case i_ladder_reach => k_is)
    (case i_ladder_heirs => k_is)
    (case i_ladder_walk => k_is)
    (case n_Ladder_width => k_is)
    (case n_Ladder_high => k_is)
    (case n_Ladder_limit => k_is)
    (case n_Ladder_many => k_is)
    (case n_Ladder__row => k_is)
    (case xp_BadSize => k_exc)
    (case kp_BadSize => k_is)
    (case bp_BadSize => k_is)
    (case tp_BadSize => k_is)
    (case xp_OutOfRange => k_exc)
    (case kp_OutOfRange => k_is)
    (case bp_OutOfRange => k_is)
    (case tp_OutOfRange => k_is)
    (case xp_Present => k_exc)
    (case kp_Present => k_is)
    (case bp_Present => k_is)
    (case tp_Present => k_is)
    (case xp_Missing => k_exc)
    (case kp_Missing => k_is)
    (case bp_Missing => k_is)
    (case tp_Missing => k_is)
    (case xp_NoLevel => k_exc)
    (case kp_NoLevel => k_is)
    (case bp_NoLevel => k_is)
    (case tp_NoLevel => k_is)
    (case xp_NoPlace => k_exc)
    (case kp_NoPlace => k_is)
    (case bp_NoPlace => k_is)
    (case tp_NoPlace => k_is)
    (case xp_OtherSize => k_exc)
    (case kp_OtherSize => k_is)
    (case bp_OtherSize => k_is)
    (case tp_OtherSize => k_is)
    (case exm_BadSize_BadSize => kts_exm)
    (case exm_BadSize_LadderError => kts_exm)
    (case exm_BadSize_NoPlace => kts_exm)
    (case exm_BadSize_NoLevel => kts_exm)
    (case kit_BadSize_ValueError => kit_is)
    (case kit_BadSize_Missing => kit_is)
    (case kit_BadSize_Present => kit_is)
    (case kit_BadSize_OutOfRange => kit_is)
    (case kit_BadSize_BadSize => kit_is)
    (case kit_BadSize_OtherSize => kit_is)
    (case kit_BadSize_NoPlace => kit_is)
    (case kit_BadSize_NoLevel => kit_is)
    (case e1_BadSize => k_is)
    (case e2_BadSize => k_is)
    (case e3_BadSize => k_is)
    (case e4_BadSize => k_is)
    (case e5_BadSize => k_is)
    (case e8_BadSize => k_is)
    (case exm_OutOfRange_BadSize => kts_exm)
    (case exm_OutOfRange_LadderError => kts_exm)
    (case exm_OutOfRange_NoPlace => kts_exm)
    (case exm_OutOfRange_NoLevel => kts_exm)
    (case kit_OutOfRange_ValueError => kit_is)
    (case kit_OutOfRange_Missing => kit_is)
    (case kit_OutOfRange_Present => kit_is)
    (case kit_OutOfRange_OutOfRange => kit_is)
    (case kit_OutOfRange_BadSize => kit_is)
    (case kit_OutOfRange_OtherSize => kit_is)
    (case kit_OutOfRange_NoPlace => kit_is)
    (case kit_OutOfRange_NoLevel => kit_is)
    (case e1_OutOfRange => k_is)
    (case e2_OutOfRange => k_is)
    (case e3_OutOfRange => k_is)
    (case e4_OutOfRange => k_is)
    (case e5_OutOfRange => k_is)
    (case e8_OutOfRange => k_is)
    (case exm_Present_BadSize => kts_exm)
    (case exm_Present_LadderError => kts_exm)
    (case exm_Present_NoPlace => kts_exm)
    (case exm_Present_NoLevel => kts_exm)
    (case kit_Present_ValueError => kit_is)
    (case kit_Present_Missing => kit_is)
    (case kit_Present_Present => kit_is)
    (case kit_Present_OutOfRange => kit_is)
    (case kit_Present_BadSize => kit_is)
    (case kit_Present_OtherSize => kit_is)
    (case kit_Present_NoPlace => kit_is)
    (case kit_Present_NoLevel => kit_is)
    (case e1_Present => k_is)
    (case e2_Present => k_is)
    (case e3_Present => k_is)
    (case e4_Present => k_is)
    (case e5_Present => k_is)
    (case e8_Present => k_is)
    (case exm_Missing_BadSize => kts_exm)
    (case exm_Missing_LadderError => kts_exm)
    (case exm_Missing_NoPlace => kts_exm)
    (case exm_Missing_NoLevel => kts_exm)
    (case kit_Missing_ValueError => kit_is)
    (case kit_Missing_Missing => kit_is)
    (case kit_Missing_Present => kit_is)
    (case kit_Missing_OutOfRange => kit_is)
    (case kit_Missing_BadSize => kit_is)
    (case kit_Missing_OtherSize => kit_is)
    (case kit_Missing_NoPlace => kit_is)
    (case kit_Missing_NoLevel => kit_is)
    (case e1_Missing => k_is)
    (case e2_Missing => k_is)
    (case e3_Missing => k_is)
    (case e4_Missing => k_is)
    (case e5_Missing => k_is)
    (case e8_Missing => k_is)
    (case exm_NoLevel_BadSize => kts_exm)
    (case exm_NoLevel_LadderError => kts_exm)
    (case exm_NoLevel_NoPlace => kts_exm)
    (case exm_NoLevel_NoLevel => kts_exm)
    (case kit_NoLevel_ValueError => kit_is)
    (case kit_NoLevel_Missing => kit_is)
    (case kit_NoLevel_Present => kit_is)
    (case kit_NoLevel_OutOfRange => kit_is)
    (case kit_NoLevel_BadSize => kit_is)
    (case kit_NoLevel_OtherSize => kit_is)
    (case kit_NoLevel_NoPlace => kit_is)
    (case kit_NoLevel_NoLevel => kit_is)
    (case e1_NoLevel => k_is)
    (case e2_NoLevel => k_is)
    (case e3_NoLevel => k_is)
    (case e4_NoLevel => k_is)
    (case e5_NoLevel => k_is)
    (case e8_NoLevel => k_is)
    (case exm_NoPlace_BadSize => kts_exm)
    (case exm_NoPlace_LadderError => kts_exm)
    (case exm_NoPlace_NoPlace => kts_exm)
    (case exm_NoPlace_NoLevel => kts_exm)
    (case kit_NoPlace_ValueError => kit_is)
    (case kit_NoPlace_Missing => kit_is)
    (case kit_NoPlace_Present => kit_is)
    (case kit_NoPlace_OutOfRange => kit_is)
    (case kit_NoPlace_BadSize => kit_is)
    (case kit_NoPlace_OtherSize => kit_is)
    (case kit_NoPlace_NoPlace => kit_is)
    (case kit_NoPlace_NoLevel => kit_is)
    (case e1_NoPlace => k_is)
    (case e2_NoPlace => k_is)
    (case e3_NoPlace => k_is)
    (case e4_NoPlace => k_is)
    (case e5_NoPlace => k_is)
    (case e8_NoPlace => k_is)
    (case exm_OtherSize_BadSize => kts_exm)
    (case exm_OtherSize_LadderError => kts_exm)
    (case exm_OtherSize_NoPlace => kts_exm)
    (case exm_OtherSize_NoLevel => kts_exm)
    (case kit_OtherSize_ValueError => kit_is)
    (case kit_OtherSize_Missing => kit_is)
    (case kit_OtherSize_Present => kit_is)
    (case kit_OtherSize_OutOfRange => kit_is)
    (case kit_OtherSize_BadSize => kit_is)
    (case kit_OtherSize_OtherSize => kit_is)
    (case kit_OtherSize_NoPlace => kit_is)
    (case kit_OtherSize_NoLevel => kit_is)
    (case e1_OtherSize => k_is)
    (case e2_OtherSize => k_is)
    (case e3_OtherSize => k_is)
    (case e4_OtherSize => k_is)
    (case e5_OtherSize => k_is)
    (case e8_OtherSize => k_is)
    (case e6 => k_is)
    (case e7 => k_is)

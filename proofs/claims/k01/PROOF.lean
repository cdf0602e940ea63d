import PyProof.Rows.All
import Wide.All
import OpenK.AllK
import Wide.FinOn
import HandS.ForMost
import HandS.More
import HandS.Wide
import HandS.Conv
import HandS.IsInst
import HandS.Evl
import PySem.Challenge.RW_skipladder_k01_a_block
set_option Elab.async false
set_option linter.all false
set_option maxRecDepth 100000
set_option maxHeartbeats 4000000
/-! The first law: power and block, def by def, over the hand layer. -/
namespace Sk
open PySem L2
def top (i : Nat) : Stmt := PySem.Challenge.pw_skipladder_k01_a_block.main.body.getD i (.Pass ⟨0, 0, 0, 0⟩)
abbrev s_power : Stmt := top 1
theorem sc_power : FnScope ["width", "level", "answer", "_"] ["width", "level"] (defScope s_power) := ⟨rfl, rfl, rfl, by decide +kernel, rfl, by decide +kernel, by decide +kernel⟩
abbrev s_block : Stmt := top 2
theorem sc_block : FnScope ["width", "level", "number"] ["width", "level", "number"] (defScope s_block) := ⟨rfl, rfl, rfl, by decide +kernel, rfl, by decide +kernel, by decide +kernel⟩
abbrev s_l_whole : Stmt := top 4
theorem sc_l_whole : FnScope ["_law_found"] ["_law_found"] (defScope s_l_whole) := ⟨rfl, rfl, rfl, by decide +kernel, rfl, by decide +kernel, by decide +kernel⟩
abbrev s_l_cell_at : Stmt := top 5
theorem sc_l_cell_at : FnScope ["_law_script", "_law_k"] ["_law_script", "_law_k"] (defScope s_l_cell_at) := ⟨rfl, rfl, rfl, by decide +kernel, rfl, by decide +kernel, by decide +kernel⟩
abbrev s_law : Stmt := top 6
theorem sc_law : FnScope ["_law_script", "_law_width", "_law_level", "_law_size", "_law_turn", "_law_number", "_law_told", "_law_found"] ["_law_script"] (defScope s_law) := ⟨rfl, rfl, rfl, by decide +kernel, rfl, by decide +kernel, by decide +kernel⟩
abbrev nI (i : Int) : Option V := some (.int i)
abbrev nR (a : Addr) : Option V := some (.ref a)
/-! ### powers -/
theorem pow_pos' {w : Int} (h : 2 ≤ w) (l : Nat) : 0 < w ^ l := Int.pow_pos (by omega)
theorem pow_le9 {w : Int} (h : 2 ≤ w) (h9 : w ≤ 9) : ∀ l : Nat, w ^ l ≤ 9 ^ l
  | 0 => by simp
  | l + 1 => by
    rw [Int.pow_succ, Int.pow_succ]
    have i := pow_le9 h h9 l
    have p := pow_pos' h l
    exact Int.mul_le_mul i h9 (by omega) (by omega)
theorem pow_le12 {w : Int} (h : 2 ≤ w) (h9 : w ≤ 9) {l : Nat} (hl : l ≤ 12) : w ^ l ≤ 282429536481 := by
  have i := pow_le9 h h9 l
  have j : (9 : Int) ^ l ≤ 9 ^ 12 := by
    have := Nat.pow_le_pow_right (n := 9) (by omega) hl
    exact_mod_cast this
  have k : (9 : Int) ^ 12 = 282429536481 := by decide
  omega
theorem div_ok {w : Int} (h : 2 ≤ w) (h9 : w ≤ 9) {l : Nat} (hl : l ≤ 12) (n : Int) : CDivW n (w ^ l) := by
  have p := pow_pos' h l
  have q := pow_le12 h h9 hl
  exact wide_div p (b := 64) (by omega) (by omega) (by omega)
theorem pow_ge2 {w : Int} (h : 2 ≤ w) : ∀ {l : Nat}, 1 ≤ l → 2 ≤ w ^ l
  | l + 1, _ => by
    rw [Int.pow_succ]
    have p := pow_pos' h l
    have := Int.mul_le_mul (show 1 ≤ w ^ l by omega) h (by omega) (by omega)
    omega
/-! ### deep equality of data -/
def dI (ns : List Int) : PyData := .list (ns.map PyData.int)
theorem dpAll_ints {K : PySem.W.Frag} {H : Hp} : ∀ ns : List Int, DpAll K H (ns.map V.int) (ns.map PyData.int)
  | [] => .nil
  | _ :: r => .cons (.int _) (dpAll_ints r)
theorem dp_ints {K : PySem.W.Frag} {H : Hp} {a : Addr} {ns : List Int} (h : SqL K H a (ns.map V.int)) : Dp K H (.ref a) (dI ns) := .lst h (dpAll_ints ns)
theorem canLay_ints : ∀ ns : List Int, PyData.canLayAll0 (ns.map PyData.int) = true
  | [] => rfl
  | _ :: r => canLay_ints r
theorem depth_ints : ∀ ns : List Int, PyData.depthAll (ns.map PyData.int) = 0
  | [] => rfl
  | _ :: r => by
    show max 0 (PyData.depthAll (r.map PyData.int)) = 0
    rw [depth_ints r]
    rfl
theorem shaped_ints (ns : List Int) : SeqAt.shaped (dI ns) = true := by
  unfold SeqAt.shaped dI
  have h1 : (PyData.list (ns.map PyData.int)).canLay0 = true := canLay_ints ns
  have h2 : (PyData.list (ns.map PyData.int)).depth = 1 := by
    show PyData.depthAll (ns.map PyData.int) + 1 = 1
    rw [depth_ints]
  rw [h1, h2]
  rfl
/-- two lists of the same ints are equal -/
theorem eqD_ints {K : PySem.W.Frag} {H : Hp} {a b : Addr} {ns ms : List Int} {Q : VK} (ha : SqL K H a (ns.map V.int)) (hb : SqL K H b (ms.map V.int)) (e : ns = ms) (q : Q (.bl true) H) : rEqD K (.ref a) (.ref b) H Q := by
  subst e
  refine ⟨dI ns, dI ns, dp_ints ha, dp_ints hb, shaped_ints ns, shaped_ints ns, ?_⟩
  rw [SeqAt.eqv_refl _ (SeqAt.canLay_of_shaped (shaped_ints ns))]
  exact q
/-! ### heaps -/
theorem same_upd {H : Hp} {p : Addr} {o : HO} (h : H p = none) : Same H (upd H p o) := fun b x e => by
  rw [upd_ne (ne_of_none e h)]
  exact e
theorem same_mut {H0 H : Hp} {p : Addr} {o : HO} (s : Same H0 H) (h : H0 p = none) : Same H0 (upd H p o) := fun b x e => by
  rw [upd_ne (ne_of_none e h)]
  exact s _ _ e
/-! ### from what a reading evaluates to, to the reading -/
theorem ev_use {te : TE} {σ : L2.St} {H : Hp} {v : V} {Q : VK} (h : Evl.Ev te σ H v) (k : ∀ H2, Same H H2 → Q v H2) : te σ H Q := h H (Evl.Ex.refl H) Q k
theorem evT_use {t : TT} {σ : L2.St} {H : Hp} {b : Bool} {Q : Bool → Hp → Prop} (h : Evl.EvT t σ H b) (k : ∀ H2, Same H H2 → Q b H2) : t σ H Q := h H (Evl.Ex.refl H) Q k
theorem evL_use {te : TE} {σ : L2.St} {H : Hp} {xs : List V} {Q : VK} (h : Evl.EvL te σ H xs) (k : ∀ p H2, H p = none → Same H H2 → H2 p = some (.lst xs) → Q (.ref p) H2) : te σ H Q := h H (Evl.Ex.refl H) Q k
/-- a built-in over a new list -/
theorem ev_cbL {r : List V → Hp → VK → Prop} {ta : TE} {σ : L2.St} {H : Hp} {xs : List V} {z : V} (h : Evl.EvL ta σ H xs) (hr : ∀ p H1, H1 p = some (.lst xs) → ∀ Q : VK, Q z H1 → r [.ref p] H1 Q) : Evl.Ev (tCB r (tCons ta tNil)) σ H z := fun H1 e Q q =>
  h H1 e _ fun p H2 _ e2 h2 => hr p H2 h2 Q (q H2 e2)
theorem et_yes {σ : L2.St} {H : Hp} : Evl.EvT tYes σ H true := fun H1 _ _ q => q H1 (Evl.Ex.refl H1)
theorem given_true (n : Nat) (v : V) : Evl.given n (fun _ => true) (fun _ => v) = List.replicate n v := by
  unfold Evl.given
  rw [List.filter_eq_self.mpr (fun _ _ => rfl), List.map_const', List.length_range]
/-- all([g(x) for x in xs]) where g tells True of each -/
theorem ev_allL {K : PySem.W.Frag} {te : TE} {σ : L2.St} {H : Hp} {n : Nat} (h : Evl.EvL te σ H (Evl.given n (fun _ => true) (fun _ => V.bl true))) : Evl.Ev (tCB (rAll K) (tCons te tNil)) σ H (.bl true) := ev_cbL h fun p H1 hp Q q => by
  rw [given_true, show List.replicate n (V.bl true) = (List.replicate n true).map V.bl by rw [List.map_replicate]] at hp
  refine ⟨p, _, rfl, SqL.of hp, ?_⟩
  rw [show (List.replicate n true).all id = true by rw [List.all_replicate]; simp]
  exact q
/-- an if of two tests, the first one by what it evaluates to -/
theorem s_and {t u : TT} {tu : TS} {D : Ends} {σ : L2.St} {H : Hp} {a : Bool} (h : Evl.EvT t σ H a) (k1 : a = true → ∀ H1, Same H H1 → u σ H1 fun c H2 => if c = true then tu D σ H2 else D.nx σ H2) (k0 : a = false → ∀ H1, Same H H1 → D.nx σ H1) : tIfS (tAnd t u) tu tNext D σ H :=
  h H (Evl.Ex.refl H) _ fun H1 e => by
    cases a with
    | true => exact k1 rfl H1 e
    | false => exact k0 rfl H1 e
/-! the promises of the blocks -/
def sp_power (_ : PySem.W.Frag) : Sp := fun vs H Q _ => ∃ (wd : Int) (l : Nat), vs = [.int wd, .int (l : Int)] ∧ 2 ≤ wd ∧ wd ≤ 9 ∧ l ≤ 12 ∧ Q (.int (wd ^ l)) H
def sp_block (_ : PySem.W.Frag) : Sp := fun vs H Q _ => ∃ (wd : Int) (l : Nat) (n : Int), vs = [.int wd, .int (l : Int), .int n] ∧ 2 ≤ wd ∧ wd ≤ 9 ∧ l ≤ 12 ∧ Q (.int (n / wd ^ l)) H
def sp_l_whole (_ : PySem.W.Frag) : Sp := fun vs H Q _ => ∃ (n : Int), vs = [.int n] ∧ Q (.bl true) H
def sp_l_cell_at (K : PySem.W.Frag) : Sp := spCell K
def sp_law (K : PySem.W.Frag) : Sp := fun vs H Q _ => ∃ (a : Addr) (ns : List Int), vs = [.ref a] ∧ SqL K H a (ns.map V.int) ∧ ns.length ≤ 63 ∧ ∀ H', Q (.bl true) H'
structure Txt (K : PySem.W.Frag) (mg : Str → Option Value) : Type where
  f_power : Addr
  fd_power : FuncData
  F_power : Fun K "power" "power" s_power f_power fd_power
  bd_power : Binds K fd_power ["width", "level"] []
  g_power : mg "power" = some (.ref f_power)
  f_block : Addr
  fd_block : FuncData
  F_block : Fun K "block" "block" s_block f_block fd_block
  bd_block : Binds K fd_block ["width", "level", "number"] []
  g_block : mg "block" = some (.ref f_block)
  f_l_whole : Addr
  fd_l_whole : FuncData
  F_l_whole : Fun K "_law_whole" "_law_whole" s_l_whole f_l_whole fd_l_whole
  bd_l_whole : Binds K fd_l_whole ["_law_found"] []
  g_l_whole : mg "_law_whole" = some (.ref f_l_whole)
  f_l_cell_at : Addr
  fd_l_cell_at : FuncData
  F_l_cell_at : Fun K "_law_cell_at" "_law_cell_at" s_l_cell_at f_l_cell_at fd_l_cell_at
  bd_l_cell_at : Binds K fd_l_cell_at ["_law_script", "_law_k"] []
  g_l_cell_at : mg "_law_cell_at" = some (.ref f_l_cell_at)
  b_bool : mg "bool" = none
  b_int : mg "int" = none
  b_isinstance : mg "isinstance" = none
  b_len : mg "len" = none
  b_max : mg "max" = none
  b_range : mg "range" = none
section
variable {P : Program} {w : World} {K : PySem.W.Frag} {mg : Str → Option Value} {base : Heap}
theorem ok_power (T : Txt K mg) : FnOk P w K mg base CX0 1 T.f_power T.fd_power ["width", "level"] (sp_power K) := by
  refine T.F_power.ok sc_power (fun vs H Q E h => ?_) (fun cdv A outer s H vs Q E hr h => ?_)
  · obtain ⟨wd, l, rfl, _⟩ := h
    rfl
  · obtain ⟨wd, l, rfl, h1, h2, h3, q⟩ := h
    refine ⟨_, (pss_cons (ps_set (i := 2) sc_power.nd rfl (.inl rfl) pe_int)
      (pss_cons (ps_for PassesOwn.never rfl (pi_range1 (by rfl) T.b_range (pa_cons (pv 1) pa_nil)) (pg_name (i := 3) sc_power.nd rfl (.inl rfl)) (pss_one (ps_set (i := 2) sc_power.nd rfl (.inl rfl) (pe_op op_mul (pv 2) (pv 0)))))
      (pss_one (ps_ret (pv 2))))), ?_⟩
    refine ⟨_, rfl, (l : Int), rfl, by omega, by omega, for_range (lo := 0) (n := l) (fun i σ H' => H' = H ∧ ∃ y, σ = [some (.int wd), some (.int (l : Int)), some (.int (wd ^ i)), y]) ⟨rfl, none, by rw [Int.pow_zero]; rfl⟩ ?_ ?_⟩
    · rintro i σ H' hi ⟨rfl, y, rfl⟩
      refine ⟨_, rfl, _, rfl, _, _, rfl, rfl, .inr ⟨by omega, by omega⟩, rfl, nI (0 + (i : Int)), ?_⟩
      rw [Int.pow_succ]
      rfl
    · rintro σ H' ⟨rfl, y, rfl⟩
      exact ⟨_, rfl, q⟩
theorem ok_block (T : Txt K mg) : FnOk P w K mg base CX0 2 T.f_block T.fd_block ["width", "level", "number"] (sp_block K) := by
  have G_power : FnOk P w K mg base CX0 1 T.f_power T.fd_power ["width", "level"] (sp_power K) := ok_power T
  refine T.F_block.ok sc_block (fun vs H Q E h => ?_) (fun cdv A outer s H vs Q E hr h => ?_)
  · obtain ⟨wd, l, n, rfl, _⟩ := h
    rfl
  · obtain ⟨wd, l, n, rfl, h1, h2, h3, q⟩ := h
    refine ⟨_, (pss_one (ps_ret (pe_op op_fdivW (pv 2) (pe_call G_power hr (by rfl) T.g_power T.F_power.kp T.bd_power .nil pass0 (pa_cons (pv 0) (pa_cons (pv 1) pa_nil)))))), ?_⟩
    exact ⟨_, rfl, _, rfl, _, rfl, wd, l, rfl, h1, h2, h3, _, _, rfl, rfl, div_ok h1 h2 h3 n, q⟩
theorem ok_l_whole (T : Txt K mg) : FnOk P w K mg base CX0 1 T.f_l_whole T.fd_l_whole ["_law_found"] (sp_l_whole K) := by
  refine T.F_l_whole.ok sc_l_whole (fun vs H Q E h => ?_) (fun cdv A outer s H vs Q E hr h => ?_)
  · obtain ⟨n, rfl, _⟩ := h
    rfl
  · obtain ⟨n, rfl, q⟩ := h
    refine ⟨_, (pss_one (ps_ret (pe_and (pe_callB call_isi (by rfl) T.b_isinstance (by decide +kernel) (pa_cons (pv 0) (pa_cons (pe_bltn (v := .ty "int") (by rfl) T.b_int (by decide +kernel) rfl) pa_nil))) (pe_one (pe_not (pe_callB call_isi (by rfl) T.b_isinstance (by decide +kernel) (pa_cons (pv 0) (pa_cons (pe_bltn (v := .ty "bool") (by rfl) T.b_bool (by decide +kernel) rfl) pa_nil)))))))), ?_⟩
    refine ⟨_, rfl, .int n, .ty "int", .type "int", .type "int", true, rfl, .ty _, .base (.int n), kit_ty (by decide +kernel), true, rfl, iteT ?_⟩
    exact ⟨_, rfl, .int n, .ty "bool", .type "int", .type "bool", false, rfl, .ty _, .base (.int n), kit_ty (by decide +kernel), false, rfl, q⟩
theorem ok_l_cell_at (T : Txt K mg) : FnOk P w K mg base CX0 1 T.f_l_cell_at T.fd_l_cell_at ["_law_script", "_law_k"] (sp_l_cell_at K) := by
  refine T.F_l_cell_at.ok sc_l_cell_at (fun vs H Q E h => ?_) (fun cdv A outer s H vs Q E hr h => ?_)
  · obtain ⟨a, ns, j, rfl, _⟩ := h
    rfl
  · obtain ⟨a, ns, j, rfl, hS, q⟩ := h
    refine ⟨_, (pss_cons (ps_if (pt_cmpR op_lt (pv 1) (pe_callB call_len_seq (by rfl) T.b_len PySem.boot_len (pa_cons (pv 0) pa_nil)) (nomark _)) (pss_one (ps_ret (pe_ix ix_list (pv 0) (pv 1) (fun _ _ => rfl)))) pss_nil)
      (pss_one (ps_ret pe_int))), ?_⟩
    refine ⟨_, rfl, _, rfl, a, ns.map V.int, rfl, .inl hS, _, _, rfl, rfl, _, rfl, ite2 (fun e => ?_) (fun e => ?_)⟩
    · have e2 := of_decide_eq_true e
      rw [List.length_map] at e2
      exact ⟨_, rfl, _, rfl, a, _, _, _, rfl, rfl, hS, atI_cell (by omega), q⟩
    · have e2 : ¬ j < ns.length := fun z => e (decide_eq_true (by rw [List.length_map]; omega))
      rw [cell_out e2] at q
      exact q
theorem ok_law {f : Addr} {fd : FuncData} (F : Fun K "law" "law" s_law f fd) (T : Txt K mg) : FnOk P w K mg base CX0 3 f fd ["_law_script"] (sp_law K) := by
  have G_power : FnOk P w K mg base CX0 1 T.f_power T.fd_power ["width", "level"] (sp_power K) := ok_power T
  have G_block : FnOk P w K mg base CX0 2 T.f_block T.fd_block ["width", "level", "number"] (sp_block K) := ok_block T
  have G_l_cell_at : FnOk P w K mg base CX0 1 T.f_l_cell_at T.fd_l_cell_at ["_law_script", "_law_k"] (sp_l_cell_at K) := ok_l_cell_at T
  have G_l_whole : FnOk P w K mg base CX0 1 T.f_l_whole T.fd_l_whole ["_law_found"] (sp_l_whole K) := ok_l_whole T
  refine F.ok sc_law (fun vs H Q E h => ?_) (fun cdv A outer s H vs Q E hr h => ?_)
  · obtain ⟨a, ns, rfl, _⟩ := h
    rfl
  · obtain ⟨a, ns, rfl, hS, hlen, q⟩ := h
    refine ⟨_, (pss_cons (ps_set (i := 1) sc_law.nd rfl (.inl rfl) (pe_op op_add pe_int (pe_op op_mod (pe_call G_l_cell_at (hr.mono (by decide)) (by rfl) T.g_l_cell_at T.F_l_cell_at.kp T.bd_l_cell_at .nil pass0 (pa_cons (pv 0) (pa_cons pe_int pa_nil))) pe_int)))
      (pss_cons (ps_set (i := 2) sc_law.nd rfl (.inl rfl) (pe_op op_mod (pe_call G_l_cell_at (hr.mono (by decide)) (by rfl) T.g_l_cell_at T.F_l_cell_at.kp T.bd_l_cell_at .nil pass0 (pa_cons (pv 0) (pa_cons pe_int pa_nil))) pe_int))
      (pss_cons (ps_set (i := 3) sc_law.nd rfl (.inl rfl) pe_int)
      (pss_cons (ps_for PassesOwn.never rfl (pi_range1 (by rfl) T.b_range (pa_cons (pv 2) pa_nil)) (pg_name (i := 4) sc_law.nd rfl (.inl rfl)) (pss_one (ps_set (i := 3) sc_law.nd rfl (.inl rfl) (pe_op op_mul (pv 3) (pv 1)))))
      (pss_cons (ps_set (i := 5) sc_law.nd rfl (.inl rfl) (pe_op op_mod (pe_call G_l_cell_at (hr.mono (by decide)) (by rfl) T.g_l_cell_at T.F_l_cell_at.kp T.bd_l_cell_at .nil pass0 (pa_cons (pv 0) (pa_cons pe_int pa_nil))) (pe_op op_pow pe_int pe_int)))
      (Evl.pss_cut (ps_if (pt_cmpR op_eq (pe_op op_mod (pe_call G_l_cell_at (hr.mono (by decide)) (by rfl) T.g_l_cell_at T.F_l_cell_at.kp T.bd_l_cell_at .nil pass0 (pa_cons (pv 0) (pa_cons pe_int pa_nil))) pe_int) pe_int (nomark _)) (pss_one (ps_set (i := 5) sc_law.nd rfl (.inl rfl) (pe_callB (call_max2 rfl) (by rfl) T.b_max (by decide +kernel) (pa_cons pe_int (pa_cons (pe_op op_sub (pe_op op_add (pe_op op_mul (pe_op op_mod (pe_call G_l_cell_at (hr.mono (by decide)) (by rfl) T.g_l_cell_at T.F_l_cell_at.kp T.bd_l_cell_at .nil pass0 (pa_cons (pv 0) (pa_cons pe_int pa_nil))) (pe_op op_pow pe_int pe_int)) (pv 3)) (pe_op op_mod (pe_op op_fdivW (pe_call G_l_cell_at (hr.mono (by decide)) (by rfl) T.g_l_cell_at T.F_l_cell_at.kp T.bd_l_cell_at .nil pass0 (pa_cons (pv 0) (pa_cons pe_int pa_nil))) pe_int) pe_int)) pe_int) pa_nil))))) pss_nil)
      (pss_cons (ps_set (i := 6) sc_law.nd rfl (.inl rfl) (pe_call G_power (hr.mono (by decide)) (by rfl) T.g_power T.F_power.kp T.bd_power .nil pass0 (pa_cons (pv 1) (pa_cons (pv 2) pa_nil))))
      (pss_cons (ps_set (i := 7) sc_law.nd rfl (.inl rfl) (pe_call G_block hr (by rfl) T.g_block T.F_block.kp T.bd_block .nil pass0 (pa_cons (pv 1) (pa_cons (pv 2) (pa_cons (pv 5) pa_nil)))))
      (pss_cons (ps_if (PW.pt (pw_or (pt_not (pt_val (pe_call G_l_whole (hr.mono (by decide)) (by rfl) T.g_l_whole T.F_l_whole.kp T.bd_l_whole .nil pass0 (pa_cons (pv 6) pa_nil)))) (pw_or (pt_cmpR op_ne (pv 6) (pv 3) (nomark _)) (pw_or1 (pt_not (pt_val (pe_call G_l_whole (hr.mono (by decide)) (by rfl) T.g_l_whole T.F_l_whole.kp T.bd_l_whole .nil pass0 (pa_cons (pv 7) pa_nil)))))))) (pss_one (ps_ret pe_bl)) pss_nil)
      (pss_one (ps_ret (pe_and (pe_cmpR op_le (pe_op op_mul (pv 7) (pv 3)) (pv 5) (nomark _)) (pe_one (pe_cmpR op_lt (pv 5) (pe_op op_mul (pe_op op_add (pv 7) pe_int) (pv 3)) (nomark _))))))))))))))), ?_⟩
    refine ⟨_, rfl, a, ns, 0, rfl, hS, _, _, rfl, rfl, (by show (0 : Int) < 8; decide), _, _, rfl, rfl, ?_⟩
    show (_ : TS) _ [nR a, nI (2 + cellOf ns 0 % 8), none, none, none, none, none, none] _
    generalize hw : 2 + cellOf ns 0 % 8 = wd
    have w1 : 2 ≤ wd := by omega
    have w2 : wd ≤ 9 := by omega
    refine ⟨_, rfl, a, ns, 1, rfl, hS, _, _, rfl, rfl, (by show (0 : Int) < 13; decide), ?_⟩
    obtain ⟨l, hl, l12⟩ : ∃ l : Nat, cellOf ns 1 % 13 = (l : Int) ∧ l ≤ 12 := ⟨(cellOf ns 1 % 13).toNat, by omega, by omega⟩
    show (_ : TS) _ [nR a, nI wd, nI (cellOf ns 1 % 13), none, none, none, none, none] _
    rw [hl]
    have p0 := pow_pos' w1 l
    have p1 := pow_le12 w1 w2 l12
    refine ⟨_, rfl, (l : Int), rfl, by omega, by omega, for_range (lo := 0) (n := l) (fun i σ H' => H' = H ∧ ∃ y, σ = [some (.ref a), some (.int wd), some (.int (l : Int)), some (.int (wd ^ i)), y, none, none, none]) ⟨rfl, none, by rw [Int.pow_zero]; rfl⟩ ?_ ?_⟩
    · rintro i σ H' hi ⟨rfl, y, rfl⟩
      refine ⟨_, rfl, _, rfl, _, _, rfl, rfl, .inr ⟨by omega, by omega⟩, rfl, nI (0 + (i : Int)), ?_⟩
      rw [Int.pow_succ]
      rfl
    · rintro σ H' ⟨rfl, y, rfl⟩
      refine ⟨_, rfl, a, ns, 2, rfl, hS, _, _, rfl, rfl, ⟨by decide, by decide, by decide⟩, _, _, rfl, rfl, (by show (0 : Int) < 10 ^ Int.toNat 40; decide), ?_⟩
      show (_ : TS) _ [nR a, nI wd, nI (l : Int), nI (wd ^ l), y, nI (cellOf ns 2 % 10 ^ (40 : Int).toNat), none, none] _
      have n0 : 0 ≤ cellOf ns 2 % 10 ^ (40 : Int).toNat := Int.emod_nonneg _ (by decide)
      revert n0
      generalize cellOf ns 2 % 10 ^ (40 : Int).toNat = n
      intro n0
      refine ⟨fun σ H2 => H2 = H' ∧ ∃ m : Int, 0 ≤ m ∧ σ = [some (.ref a), some (.int wd), some (.int (l : Int)), some (.int (wd ^ l)), y, some (.int m), none, none], ?_, ?_⟩
      · refine ⟨_, rfl, a, ns, 3, rfl, hS, _, _, rfl, rfl, (by show (0 : Int) < 3; decide), rfl, _, rfl, ite2 (fun _ => ?_) (fun _ => ?_)⟩
        · refine ⟨_, rfl, a, ns, 2, rfl, hS, _, _, rfl, rfl, ⟨by decide, by decide, by decide⟩, _, _, rfl, rfl, (by show (0 : Int) < 10 ^ Int.toNat 6; decide), _, rfl, _, _, rfl, rfl, .inr ⟨by omega, by omega⟩, ?_⟩
          refine ⟨_, rfl, a, ns, 3, rfl, hS, _, _, rfl, rfl, ⟨by decide, by decide⟩, _, _, rfl, rfl, (by show (0 : Int) < 3; decide), _, _, rfl, rfl, _, _, rfl, rfl, _, _, rfl, ?_⟩
          refine ⟨rfl, _, ?_, rfl⟩
          split <;> omega
        · exact ⟨rfl, n, n0, rfl⟩
      · rintro σ H2 ⟨rfl, m, m0, rfl⟩
        refine ⟨_, rfl, _, rfl, wd, l, rfl, w1, w2, l12, ?_⟩
        refine ⟨_, rfl, _, rfl, _, rfl, wd, l, m, rfl, w1, w2, l12, ?_⟩
        refine ⟨_, rfl, _, rfl, true, rfl, iteF ?_⟩
        refine ⟨_, rfl, _, rfl, rfl, _, rfl, iteNS rfl ?_⟩
        refine ⟨_, rfl, _, rfl, true, rfl, iteF ?_⟩
        have d0 := Int.ediv_mul_le m (show wd ^ l ≠ 0 by omega)
        have d1 := Int.lt_ediv_add_one_mul_self m p0
        refine ⟨_, rfl, _, rfl, _, _, rfl, rfl, .inr ⟨by omega, by omega⟩, _, rfl, _, _, rfl, rfl, _, rfl, ite2 (fun _ => ?_) (fun z => (z (decide_eq_true d0)).elim)⟩
        refine ⟨_, rfl, _, rfl, _, _, rfl, rfl, _, rfl, _, _, rfl, rfl, .inr ⟨by omega, by omega⟩, _, _, rfl, rfl, ?_⟩
        show Q (.bl (decide (m < (m / wd ^ l + 1) * wd ^ l))) _
        rw [decide_eq_true d1]
        exact q _
end
theorem all_mk {l : PySem.W.OpenLaw} {w : World} {K : PySem.W.Frag} {h : Heap} {mg : Str → Option Value} {fa : Addr} {f_power f_block f_l_whole f_l_cell_at f_law : Addr} (X : K.In h) (G : h.Ns mainGlobals mg) (hfa : mg "law" = some (.ref fa))
    {od_power an_power od_block an_block od_l_whole an_l_whole od_l_cell_at an_l_cell_at od_law an_law : Option Addr} {sl_power sl_block sl_l_whole sl_l_cell_at sl_law : Array (Option Value)} {oc_power kV_power dc_power pm_power cd_power ct_power oc_block kV_block dc_block pm_block cd_block ct_block oc_l_whole kV_l_whole dc_l_whole pm_l_whole cd_l_whole ct_l_whole oc_l_cell_at kV_l_cell_at dc_l_cell_at pm_l_cell_at cd_l_cell_at ct_l_cell_at oc_law kV_law dc_law pm_law cd_law ct_law : Value}
    (a_power : PySem.W.nsIn K mainGlobals "power" = some (some (.ref f_power)))
    (l_power : K.lookup f_power = some ⟨oc_power, od_power, .func (PySem.W.fnOf "power" "power" (defArgs s_power) (defBody s_power) (defScope s_power) .none kV_power dc_power pm_power an_power cd_power ct_power), sl_power⟩)
    (c_power : PySem.W.codeIn K cd_power "power" = true)
    (k_power : PySem.W.keepIn K (.ref f_power) = true)
    (a_block : PySem.W.nsIn K mainGlobals "block" = some (some (.ref f_block)))
    (l_block : K.lookup f_block = some ⟨oc_block, od_block, .func (PySem.W.fnOf "block" "block" (defArgs s_block) (defBody s_block) (defScope s_block) .none kV_block dc_block pm_block an_block cd_block ct_block), sl_block⟩)
    (c_block : PySem.W.codeIn K cd_block "block" = true)
    (k_block : PySem.W.keepIn K (.ref f_block) = true)
    (a_l_whole : PySem.W.nsIn K mainGlobals "_law_whole" = some (some (.ref f_l_whole)))
    (l_l_whole : K.lookup f_l_whole = some ⟨oc_l_whole, od_l_whole, .func (PySem.W.fnOf "_law_whole" "_law_whole" (defArgs s_l_whole) (defBody s_l_whole) (defScope s_l_whole) .none kV_l_whole dc_l_whole pm_l_whole an_l_whole cd_l_whole ct_l_whole), sl_l_whole⟩)
    (c_l_whole : PySem.W.codeIn K cd_l_whole "_law_whole" = true)
    (k_l_whole : PySem.W.keepIn K (.ref f_l_whole) = true)
    (a_l_cell_at : PySem.W.nsIn K mainGlobals "_law_cell_at" = some (some (.ref f_l_cell_at)))
    (l_l_cell_at : K.lookup f_l_cell_at = some ⟨oc_l_cell_at, od_l_cell_at, .func (PySem.W.fnOf "_law_cell_at" "_law_cell_at" (defArgs s_l_cell_at) (defBody s_l_cell_at) (defScope s_l_cell_at) .none kV_l_cell_at dc_l_cell_at pm_l_cell_at an_l_cell_at cd_l_cell_at ct_l_cell_at), sl_l_cell_at⟩)
    (c_l_cell_at : PySem.W.codeIn K cd_l_cell_at "_law_cell_at" = true)
    (k_l_cell_at : PySem.W.keepIn K (.ref f_l_cell_at) = true)
    (a_law : PySem.W.nsIn K mainGlobals "law" = some (some (.ref f_law)))
    (l_law : K.lookup f_law = some ⟨oc_law, od_law, .func (PySem.W.fnOf "law" "law" (defArgs s_law) (defBody s_law) (defScope s_law) .none kV_law dc_law pm_law an_law cd_law ct_law), sl_law⟩)
    (c_law : PySem.W.codeIn K cd_law "law" = true)
    (k_law : PySem.W.keepIn K (.ref f_law) = true)
    (z_bool : PySem.W.nsIn K mainGlobals "bool" = some none)
    (z_int : PySem.W.nsIn K mainGlobals "int" = some none)
    (z_isinstance : PySem.W.nsIn K mainGlobals "isinstance" = some none)
    (z_len : PySem.W.nsIn K mainGlobals "len" = some none)
    (z_max : PySem.W.nsIn K mainGlobals "max" = some none)
    (z_range : PySem.W.nsIn K mainGlobals "range" = some none)
    : ∃ fd : FuncData, (∀ (s : Shared) (v : Value), BindsTo s fd ⟨[v], []⟩ [("_law_script", v)]) ∧ ∀ base : Heap, K.In base → base.Ns mainGlobals mg → FnOk l.prog w K mg base CX0 3 fa fd ["_law_script"] (sp_law K) := by
  have e := hfa.symm.trans (PySem.W.mg_of X G a_law)
  cases e
  have F_power := fun_mk (st := s_power) l_power c_power k_power
  have bd_power := F_power.binds (ps := ["width", "level"]) fun _ _ _ _ _ _ us hl => match us, hl with | [_, _], _ => rfl
  have F_block := fun_mk (st := s_block) l_block c_block k_block
  have bd_block := F_block.binds (ps := ["width", "level", "number"]) fun _ _ _ _ _ _ us hl => match us, hl with | [_, _, _], _ => rfl
  have F_l_whole := fun_mk (st := s_l_whole) l_l_whole c_l_whole k_l_whole
  have bd_l_whole := F_l_whole.binds (ps := ["_law_found"]) fun _ _ _ _ _ _ us hl => match us, hl with | [_], _ => rfl
  have F_l_cell_at := fun_mk (st := s_l_cell_at) l_l_cell_at c_l_cell_at k_l_cell_at
  have bd_l_cell_at := F_l_cell_at.binds (ps := ["_law_script", "_law_k"]) fun _ _ _ _ _ _ us hl => match us, hl with | [_, _], _ => rfl
  have F_law := fun_mk (st := s_law) l_law c_law k_law
  have T : Txt K mg := { f_power := _, fd_power := _, F_power := F_power, bd_power := bd_power, g_power := PySem.W.mg_of X G a_power, f_block := _, fd_block := _, F_block := F_block, bd_block := bd_block, g_block := PySem.W.mg_of X G a_block, f_l_whole := _, fd_l_whole := _, F_l_whole := F_l_whole, bd_l_whole := bd_l_whole, g_l_whole := PySem.W.mg_of X G a_l_whole, f_l_cell_at := _, fd_l_cell_at := _, F_l_cell_at := F_l_cell_at, bd_l_cell_at := bd_l_cell_at, g_l_cell_at := PySem.W.mg_of X G a_l_cell_at, b_bool := PySem.W.mg_none_of X G z_bool, b_int := PySem.W.mg_none_of X G z_int, b_isinstance := PySem.W.mg_none_of X G z_isinstance, b_len := PySem.W.mg_none_of X G z_len, b_max := PySem.W.mg_none_of X G z_max, b_range := PySem.W.mg_none_of X G z_range }
  exact ⟨PySem.W.fnOf "law" "law" (defArgs s_law) (defBody s_law) (defScope s_law) .none kV_law dc_law pm_law an_law cd_law ct_law, fun s v => .of_eq rfl, fun base _ _ => ok_law F_law T⟩
end Sk
open PySem PySem.W PyProof.Rows
set_option maxRecDepth 100000 in
set_option maxHeartbeats 0 in
theorem PySem.Challenge.cw_skipladder_k01_a_block_holds : PySem.Challenge.rw_skipladder_k01_a_block.Holds := by
  w_on; o_law; k_head; (case hw => w_witness2)
  k_fill
  refine L2.walk_of (l := PySem.Challenge.rw_skipladder_k01_a_block) (n := 63) (k := 3) (x := "_law_script") (CX := fun _ => L2.CX0) (sp := fun w => Sk.sp_law _) rfl (by decide) rfl ⟨rfl, by decide, by decide⟩ (fun w h Y => PySem.W.kIn_of Y) ?F (fun _ _ a ns hl _ hS => ⟨a, ns, rfl, hS, hl, fun _ => rfl⟩) (fun _ _ _ _ _ h => h)
  case F =>
    intro w mg fa h KX G hmg
    refine' Sk.all_mk KX G hmg ?a_power ?l_power ?c_power ?k_power ?a_block ?l_block ?c_block ?k_block ?a_l_whole ?l_l_whole ?c_l_whole ?k_l_whole ?a_l_cell_at ?l_l_cell_at ?c_l_cell_at ?k_l_cell_at ?a_law ?l_law ?c_law ?k_law ?z_bool ?z_int ?z_isinstance ?z_len ?z_max ?z_range
    (case a_power => k_is)
    (case l_power => k_is)
    (case c_power => k_is)
    (case k_power => k_is)
    (case a_block => k_is)
    (case l_block => k_is)
    (case c_block => k_is)
    (case k_block => k_is)
    (case a_l_whole => k_is)
    (case l_l_whole => k_is)
    (case c_l_whole => k_is)
    (case k_l_whole => k_is)
    (case a_l_cell_at => k_is)
    (case l_l_cell_at => k_is)
    (case c_l_cell_at => k_is)
    (case k_l_cell_at => k_is)
    (case a_law => k_is)
    (case l_law => k_is)
    (case c_law => k_is)
    (case k_law => k_is)
    (case z_bool => k_is)
    (case z_int => k_is)
    (case z_isinstance => k_is)
    (case z_len => k_is)
    (case z_max => k_is)
    (case z_range => k_is)

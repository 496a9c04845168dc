/-
  A table of producers in memory: its rows as data; what the small functions of package dedup do.
-/
import Derived.Test.YtofakehnadpebaaMapV
import Derived.Test.YtofakehnadpebaaRecNx
import Derived.Deep.RegionHeld3
import Derived.BigQuiet
import Derived.Deep.QuietTactic
namespace Go.Proofs.Ytofakehnadpebaa
open Go.RowKit Go.Maps
set_option linter.unusedVariables false
set_option linter.unusedSimpArgs false

structure Rw where
  pid : Int
  epoch : Int
  seq : Int
  count : Int
  base : Int
  frm : Int
  time : Int
instance : Inhabited Rw := ⟨⟨0, 0, 0, 0, 0, 0, 0⟩⟩
def Rw.cells (r : Rw) : Array Value := #[.int .i64 r.pid, .int .i64 r.epoch, .int .i64 r.seq, .int .i64 r.count, .int .i64 r.base, .int .i64 r.frm, .int .i64 r.time]
def Rw.val (r : Rw) : Value := .agg r.cells
structure Rw.ok (r : Rw) : Prop where
  p : 1 ≤ r.pid ∧ r.pid ≤ 1048576
  e : -1 ≤ r.epoch ∧ r.epoch ≤ 32768
  s : 0 ≤ r.seq ∧ r.seq ≤ 2147483647
  c : 0 ≤ r.count ∧ r.count ≤ 64
  b : 0 ≤ r.base ∧ r.base ≤ 1099511627776
  f : -1 ≤ r.frm ∧ r.frm ≤ 1099511627776
  t : 0 ≤ r.time ∧ r.time ≤ 1099511627776
def begunR (pid epoch time : Int) : Rw := ⟨pid, epoch, 0, 0, 0, -1, time⟩
def knownR (L : List Rw) (pid : Int) : Rw := (getL Rw.pid L pid).getD (begunR pid (-1) 0)
def openR (r : Rw) : Bool := r.frm != -1
def placeR (r : Rw) (b : Bat) : Int := if b.seq = r.seq ∧ (b.L.length : Int) = r.count then r.base else -1
def fromR (r : Rw) (b : Bat) : Int := if b.kind = 1 ∧ openR r = false then b.base else r.frm
def afterR (r : Rw) (b : Bat) : Rw := if markB b then begunR b.pid (b.epoch + 1) (max r.time b.time) else ⟨b.pid, b.epoch, b.seq, b.L.length, b.base, fromR r b, max r.time b.time⟩
theorem begunR_ok {pid epoch time : Int} (h1 : 1 ≤ pid) (h2 : pid ≤ 1048576) (h3 : -1 ≤ epoch) (h4 : epoch ≤ 32768) (h5 : 0 ≤ time) (h6 : time ≤ 1099511627776) : (begunR pid epoch time).ok :=
  ⟨⟨h1, h2⟩, ⟨h3, h4⟩, (by show (0 : Int) ≤ 0 ∧ (0 : Int) ≤ 2147483647; decide), (by show (0 : Int) ≤ 0 ∧ (0 : Int) ≤ 64; decide), (by show (0 : Int) ≤ 0 ∧ (0 : Int) ≤ 1099511627776; decide), (by show (-1 : Int) ≤ -1 ∧ (-1 : Int) ≤ 1099511627776; decide), ⟨h5, h6⟩⟩
theorem knownR_ok {L : List Rw} (h : ∀ r ∈ L, r.ok) {pid : Int} (h1 : 1 ≤ pid) (h2 : pid ≤ 1048576) : (knownR L pid).ok := by
  unfold knownR
  cases hg : getL Rw.pid L pid with
  | none => exact begunR_ok h1 h2 (by decide) (by decide) (by decide) (by decide)
  | some r => exact h r (getL_mem _ hg)
theorem knownR_pid (L : List Rw) (pid : Int) : (knownR L pid).pid = pid := by
  unfold knownR
  cases hg : getL Rw.pid L pid with
  | none => rfl
  | some r => exact getL_key _ hg
theorem afterR_pid (r : Rw) (b : Bat) : (afterR r b).pid = b.pid := by unfold afterR begunR; split <;> rfl
theorem afterR_ok {r : Rw} {b : Bat} (h : r.ok) (hF : Fine b) (h1 : 1 ≤ b.pid) : (afterR r b).ok := by
  have ht : 0 ≤ max r.time b.time ∧ max r.time b.time ≤ 1099511627776 := by have := h.t; have := hF.t1; have := hF.t2; omega
  unfold afterR
  split
  · exact begunR_ok h1 hF.p2 (by have := hF.e1; omega) (by have := hF.e2; omega) ht.1 ht.2
  · refine ⟨⟨h1, hF.p2⟩, ⟨by show -1 ≤ b.epoch; have := hF.e1; omega, by show b.epoch ≤ 32768; have := hF.e2; omega⟩, ⟨hF.s1, hF.s2⟩, ⟨by show (0 : Int) ≤ b.L.length; omega, by show (b.L.length : Int) ≤ 64; have := hF.len; omega⟩, ⟨hF.b1, hF.b2⟩, ?_, ht⟩
    show -1 ≤ fromR r b ∧ fromR r b ≤ 1099511627776
    unfold fromR
    have := h.f
    have := hF.b1
    have := hF.b2
    split <;> omega

theorem zero_row (w : World) : (zeroValue 52).run Try.prog w = .ok (.agg #[.int .i64 0, .int .i64 0, .int .i64 0, .int .i64 0, .int .i64 0, .int .i64 0, .int .i64 0]) w := by kernel_rfl
theorem law64 : Keyed Try.prog 2 := int_keyed Try.underlying2
theorem wf64 {n : Int} (h1 : -9223372036854775808 ≤ n) (h2 : n ≤ 9223372036854775807) : (Lit.int .i64 n).wf = true := by
  simp only [Lit.wf, IntKind.min, IntKind.max, IntKind.signed, IntKind.bits, Bool.and_eq_true, decide_eq_true_eq]
  constructor
  · simpa using h1
  · simpa using h2

/-- a table in memory -/
structure Tb (w : World) (g m : Nat) (most next : Int) (L : List Rw) : Prop where
  t : w.heap[g]? = some (.cells #[.int .i64 most, .int .i64 next, .map (some m)] 91 (0, 0))
  mi : Mi Rw.pid Rw.val Try.prog 2 w m L
  ok : ∀ r ∈ L, r.ok
section
variable {w w' : World} {g m : Nat} {most next : Int} {L : List Rw}
theorem Tb.lg (h : Tb w g m most next L) : g < w.heap.size := (Array.getElem?_eq_some_iff.1 h.t).1
theorem Tb.ne (h : Tb w g m most next L) : g ≠ m := by
  intro e
  obtain ⟨n, _, es, clock, hb, _⟩ := h.mi.own
  rw [← e, h.t] at hb
  cases hb
theorem Tb.kept (h : Tb w g m most next L) (h1 : w'.heap[g]? = w.heap[g]?) (h2 : w'.heap[m]? = w.heap[m]?) : Tb w' g m most next L := ⟨h1.trans h.t, h.mi.kept h2, h.ok⟩
theorem Tb.below (h : Tb w g m most next L) (hb : Below w.heap.size w w') : Tb w' g m most next L := h.kept (hb.block g h.lg) (hb.block m h.mi.lt)
theorem Tb.alloc (h : Tb w g m most next L) (o : Obj) : Tb (w.alloc o) g m most next L := h.below ((Below.refl _ _).alloc (Nat.le_refl _) o)
end

/-- 'row, ok := t.rows[pid]', at the operation -/
theorem wpList_look_some {α : Type} {kf : α → Int} {vf : α → Value} {P : Program} (w : World) {ops : Array Oper} {rest : List Oper} {o : Oper} {a : Act} {Q : Exit → Act → World → Prop} (hg : o.guard = none) (mo x : Operand) (t : TypeId) (hop : o.op = Op.lookup t mo x true)
    (kt e : TypeId) (K : Keyed P kt) (ht : P.underlying t = some (.map kt e)) (hk : P.underlying kt = some (.int .i64)) {z : Value} (hz : (zeroValue e).run P w = .ok z w) (b : Nat) (L : List α) (hm : a.eval mo = .map (some b)) (h : Mi kf vf P kt w b L) (k : Int) (hx : a.eval x = .int .i64 k) (hw : (Lit.int .i64 k).wf = true)
    (r : α) (hr : getL kf L k = some r) (v : Value) (hv : vf r = v) (hK : wpList P ops Q rest (a.put o.dst (.tuple #[v, .bool true])) w) : wpList P ops Q (o :: rest) a w := by
  refine wpList_plain hg fun K' hK' => ?_
  have hrun := h.look_ok K ht hk hz k hw
  rw [hr] at hrun
  simp only [Option.isSome_some] at hrun
  rw [hv] at hrun
  unfold Oper.wp
  simp [execOp, hop, hm, hx, hrun, Result.andThen]
  exact hK' _ _ hK
theorem wpList_look_none {α : Type} {kf : α → Int} {vf : α → Value} {P : Program} (w : World) {ops : Array Oper} {rest : List Oper} {o : Oper} {a : Act} {Q : Exit → Act → World → Prop} (hg : o.guard = none) (mo x : Operand) (t : TypeId) (hop : o.op = Op.lookup t mo x true)
    (kt e : TypeId) (K : Keyed P kt) (ht : P.underlying t = some (.map kt e)) (hk : P.underlying kt = some (.int .i64)) {z : Value} (hz : (zeroValue e).run P w = .ok z w) (b : Nat) (L : List α) (hm : a.eval mo = .map (some b)) (h : Mi kf vf P kt w b L) (k : Int) (hx : a.eval x = .int .i64 k) (hw : (Lit.int .i64 k).wf = true)
    (hr : getL kf L k = none) (hK : wpList P ops Q rest (a.put o.dst (.tuple #[z, .bool false])) w) : wpList P ops Q (o :: rest) a w := by
  refine wpList_plain hg fun K' hK' => ?_
  have hrun := h.look_ok K ht hk hz k hw
  rw [hr] at hrun
  simp only [Option.isSome_none] at hrun
  unfold Oper.wp
  simp [execOp, hop, hm, hx, hrun, Result.andThen]
  exact hK' _ _ hK

set_option maxRecDepth 100000 in
set_option maxHeartbeats 1000000 in
theorem dmark_any (b : Bat) (A : Option Addr) (c : Nat) (w : World) : Calls Try.prog 63 #[.agg (b.cells A c)] w fun e w' => e = .returned (.bool (markB b)) ∧ Below w.heap.size w w' := by
  obtain ⟨base, pid, epoch, seq, kind, time, L⟩ := b
  unfold Bat.cells markB
  simp only
  by_cases h2 : (kind == 2) = true
  · rw [h2]
    go_enter Try.func63, Try.ntmps63
    go_wp2
    go_ret
    exact ⟨rfl, (Below.refl _ _).alloc (Nat.le_refl _) _⟩
  · have h2' : (kind == 2) = false := by simpa using h2
    clear h2
    rw [h2']
    go_enter Try.func63, Try.ntmps63
    go_wp2
    go_ret
    exact ⟨rfl, (Below.refl _ _).alloc (Nat.le_refl _) _⟩
theorem behind_any (a c : Int) (w : World) (h1 : -2147483648 ≤ a) (h2 : a ≤ 2147483648) (h3 : -2147483648 ≤ c) (h4 : c ≤ 2147483648) : Calls Try.prog 64 #[.int .i64 a, .int .i64 c] w fun e w' => e = .returned (.int .i64 (a + c)) ∧ w = w' := by
  go_enter Try.func64, Try.ntmps64
  go_wp2
  go_ret
  exact ⟨rfl, rfl⟩
theorem isNaN_any (a : Int) (w : World) : Calls Try.prog 107 #[.int .i64 a] w fun e w' => e = .returned (.bool false) ∧ w = w' := by
  go_enter Try.func107, Try.ntmps107
  go_wp2
  go_ret
  exact ⟨by simp, rfl⟩
def cmpI (a b : Int) : Int := if a < b then -1 else if b < a then 1 else 0
theorem compare_any (a b : Int) (w : World) : Calls Try.prog 62 #[.int .i64 a, .int .i64 b] w fun e w' => e = .returned (.int .i64 (cmpI a b)) ∧ w = w' := by
  unfold cmpI
  by_cases h1 : a < b
  · rw [if_pos h1]
    go_enter Try.func62, Try.ntmps62
    go_wp2_with (go_at_call 107; refine (isNaN_any _ _).mono ?_; rintro e w' ⟨rfl, rfl⟩)
    go_ret
    exact ⟨rfl, rfl⟩
  · rw [if_neg h1]
    by_cases h2 : b < a
    · rw [if_pos h2]
      go_enter Try.func62, Try.ntmps62
      go_wp2_with (go_at_call 107; refine (isNaN_any _ _).mono ?_; rintro e w' ⟨rfl, rfl⟩)
      go_ret
      exact ⟨rfl, rfl⟩
    · rw [if_neg h2]
      go_enter Try.func62, Try.ntmps62
      go_wp2_with (go_at_call 107; refine (isNaN_any _ _).mono ?_; rintro e w' ⟨rfl, rfl⟩)
      go_ret
      exact ⟨rfl, rfl⟩
set_option maxRecDepth 100000 in
set_option maxHeartbeats 1000000 in
theorem open_any (r : Rw) (w : World) : Calls Try.prog 66 #[r.val] w fun e w' => e = .returned (.bool (openR r)) ∧ Below w.heap.size w w' := by
  obtain ⟨pid, epoch, seq, count, base, frm, time⟩ := r
  unfold Rw.val Rw.cells openR
  simp only
  go_enter Try.func66, Try.ntmps66
  go_wp2
  go_ret
  exact ⟨rfl, (Below.refl _ _).alloc (Nat.le_refl _) _⟩
set_option maxRecDepth 100000 in
set_option maxHeartbeats 1000000 in
theorem begun_any (pid epoch time : Int) (w : World) : Calls Try.prog 106 #[.int .i64 pid, .int .i64 epoch, .int .i64 time] w fun e w' => e = .returned (begunR pid epoch time).val ∧ Below w.heap.size w w' := by
  unfold Rw.val Rw.cells begunR
  simp only
  go_enter Try.func106, Try.ntmps106
  go_wp2
  refine bodyPost_ret (v := .agg #[.int .i64 pid, .int .i64 epoch, .int .i64 0, .int .i64 0, .int .i64 0, .int .i64 (-1), .int .i64 time]) (by simp [results, Try.results106, go_sem]) rfl ⟨rfl, ?_⟩
  repeat refine Below.setCell ?_ (by simp) _
  exact (Below.refl _ _).alloc (Nat.le_refl _) _
end Go.Proofs.Ytofakehnadpebaa

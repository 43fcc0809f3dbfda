/-
  Contents held against contents: == and != on structs of eight cells.
-/
import Derived.Test.YtllnjmpakkodnaaVxSmall
import Derived.BigQuiet
import Derived.Laws.StructEq
namespace Go.Proofs.Ytllnjmpakkodnaa
open Go.RowKit

def vxEq (p q : Vx) : Bool := p.r == q.r && p.x == q.x && p.b == q.b && p.m == q.m && p.w == q.w && p.v == q.v && p.l == q.l && p.p == q.p
theorem vxEq_iff {p q : Vx} : vxEq p q = true ↔ p = q := by
  obtain ⟨p1, p2, p3, p4, p5, p6, p7, p8⟩ := p
  obtain ⟨q1, q2, q3, q4, q5, q6, q7, q8⟩ := q
  simp [vxEq, and_assoc]
theorem vxEq_self (p : Vx) : vxEq p p = true := vxEq_iff.2 rfl
set_option maxHeartbeats 1000000 in
theorem run_eq_vex (p q : Vx) (n : Nat) (w : World) : (Op.equalIn (n + 6) 23 (.agg #[.int .i64 p.r, .int .i64 p.x, .int .i64 p.b, .int .i64 p.m, .int .i64 p.w, .int .i64 p.v, .int .i64 p.l, .int .i64 p.p]) (.agg #[.int .i64 q.r, .int .i64 q.x, .int .i64 q.b, .int .i64 q.m, .int .i64 q.w, .int .i64 q.v, .int .i64 q.l, .int .i64 q.p])).run Try.prog w = .ok (vxEq p q) w := by
  unfold vxEq
  rw [run_equalIn_agg _ _ _ _ _ (by kernel_rfl) (by kernel_rfl)]
  simp only [Program.fieldsOf, Try.underlying23]
  cases h0 : (p.r == q.r)
  · simp [go_sem, Op.eqFields, h0]
  ·
    cases h1 : (p.x == q.x)
    · simp [go_sem, Op.eqFields, h0, h1]
    ·
      cases h2 : (p.b == q.b)
      · simp [go_sem, Op.eqFields, h0, h1, h2]
      ·
        cases h3 : (p.m == q.m)
        · simp [go_sem, Op.eqFields, h0, h1, h2, h3]
        ·
          cases h4 : (p.w == q.w)
          · simp [go_sem, Op.eqFields, h0, h1, h2, h3, h4]
          ·
            cases h5 : (p.v == q.v)
            · simp [go_sem, Op.eqFields, h0, h1, h2, h3, h4, h5]
            ·
              cases h6 : (p.l == q.l)
              · simp [go_sem, Op.eqFields, h0, h1, h2, h3, h4, h5, h6]
              ·
                cases h7 : (p.p == q.p)
                · simp [go_sem, Op.eqFields, h0, h1, h2, h3, h4, h5, h6, h7]
                · simp [go_sem, Op.eqFields, h0, h1, h2, h3, h4, h5, h6, h7]
theorem run_eql_vex {p q : Vx} {v : Bool} (h : vxEq p q = v) (w : World) : (binOp .eql 23 (.agg #[.int .i64 p.r, .int .i64 p.x, .int .i64 p.b, .int .i64 p.m, .int .i64 p.w, .int .i64 p.v, .int .i64 p.l, .int .i64 p.p]) (.agg #[.int .i64 q.r, .int .i64 q.x, .int .i64 q.b, .int .i64 q.m, .int .i64 q.w, .int .i64 q.v, .int .i64 q.l, .int .i64 q.p])).run Try.prog w = .ok (.bool v) w := by
  rw [run_eql_struct, run_eq_vex p q 9994 w, h]
  rfl
theorem run_neq_vex {p q : Vx} {v : Bool} (h : vxEq p q = !v) (w : World) : (binOp .neq 23 (.agg #[.int .i64 p.r, .int .i64 p.x, .int .i64 p.b, .int .i64 p.m, .int .i64 p.w, .int .i64 p.v, .int .i64 p.l, .int .i64 p.p]) (.agg #[.int .i64 q.r, .int .i64 q.x, .int .i64 q.b, .int .i64 q.m, .int .i64 q.w, .int .i64 q.v, .int .i64 q.l, .int .i64 q.p])).run Try.prog w = .ok (.bool v) w := by
  rw [run_neq_struct, run_eq_vex p q 9994 w, h]
  cases v <;> rfl
end Go.Proofs.Ytllnjmpakkodnaa

/- Texts put together. -/
import Derived.Test.YtbkjhfmehemgpaaGreatFb0
namespace Go.Proofs.YtbkjhfmehemgpaaGreat
set_option maxRecDepth 20000
set_option maxHeartbeats 16000000
open Go.ChangeShapes Go.WideShapes Go.ChangeAt Go.RowKit
set_option linter.unusedVariables false
set_option linter.unusedSimpArgs false
theorem refConfig_a (d h l v u x t n:Int)(w:World)(kd:∀ w,Calls Tryz.prog 90 #[.int .i64 d,.int .i64 2,.int .i64 8] w fun e w'=>e=.returned (.bool false)∧w'=w) :
  Calls Tryz.prog 46 #[.agg #[.int .i64 d,.int .i64 h,.int .i64 l,.int .i64 v,.int .i64 u,.int .i64 x,.int .i64 t,.int .i64 n]] w fun e w'=>e=.returned (.bool false)∧Below w.heap.size w w':=by
 go_enter Tryz.func46,Tryz.ntmps46
 go_wp2_with (first|(go_at_call_of 90 d;refine (kd _).mono ?_;rintro e W1 ⟨rfl,h3⟩;obtain rfl:=h3.symm))
 go_ret
 exact⟨rfl,(Below.refl _ w).alloc (Nat.le_refl _) _⟩
theorem refConfig_b (d h l v u x t n:Int)(w:World)(kd:∀ w,Calls Tryz.prog 90 #[.int .i64 d,.int .i64 2,.int .i64 8] w fun e w'=>e=.returned (.bool true)∧w'=w)(g0:2≤d)(g1:d≤8)(g2:d%2=1) :
  Calls Tryz.prog 46 #[.agg #[.int .i64 d,.int .i64 h,.int .i64 l,.int .i64 v,.int .i64 u,.int .i64 x,.int .i64 t,.int .i64 n]] w fun e w'=>e=.returned (.bool false)∧Below w.heap.size w w':=by
 go_enter Tryz.func46,Tryz.ntmps46
 go_wp2_with (first|(go_at_call_of 90 d;refine (kd _).mono ?_;rintro e W1 ⟨rfl,h3⟩;obtain rfl:=h3.symm))
 go_ret
 exact⟨rfl,(Below.refl _ w).alloc (Nat.le_refl _) _⟩
theorem refConfig_c (d h l v u x t n:Int)(w:World)(kd:∀ w,Calls Tryz.prog 90 #[.int .i64 d,.int .i64 2,.int .i64 8] w fun e w'=>e=.returned (.bool true)∧w'=w)(g0:2≤d)(g1:d≤8)(g2:d%2=0)(kh:∀ w,Calls Tryz.prog 90 #[.int .i64 h,.int .i64 1,.int .i64 4] w fun e w'=>e=.returned (.bool false)∧w'=w) :
  Calls Tryz.prog 46 #[.agg #[.int .i64 d,.int .i64 h,.int .i64 l,.int .i64 v,.int .i64 u,.int .i64 x,.int .i64 t,.int .i64 n]] w fun e w'=>e=.returned (.bool false)∧Below w.heap.size w w':=by
 go_enter Tryz.func46,Tryz.ntmps46
 go_wp2_with (first|(go_at_call_of 90 d;refine (kd _).mono ?_;rintro e W1 ⟨rfl,h3⟩;obtain rfl:=h3.symm)|(go_at_call_of 90 h;refine (kh _).mono ?_;rintro e W1 ⟨rfl,h3⟩;obtain rfl:=h3.symm))
 go_ret
 exact⟨rfl,(Below.refl _ w).alloc (Nat.le_refl _) _⟩
theorem refConfig_d (d h l v u x t n:Int)(w:World)(kd:∀ w,Calls Tryz.prog 90 #[.int .i64 d,.int .i64 2,.int .i64 8] w fun e w'=>e=.returned (.bool true)∧w'=w)(g0:2≤d)(g1:d≤8)(g2:d%2=0)(kh:∀ w,Calls Tryz.prog 90 #[.int .i64 h,.int .i64 1,.int .i64 4] w fun e w'=>e=.returned (.bool true)∧w'=w)(g3:1≤h)(g4:h≤4)(g5:(d%h==0)=false) :
  Calls Tryz.prog 46 #[.agg #[.int .i64 d,.int .i64 h,.int .i64 l,.int .i64 v,.int .i64 u,.int .i64 x,.int .i64 t,.int .i64 n]] w fun e w'=>e=.returned (.bool false)∧Below w.heap.size w w':=by
 go_enter Tryz.func46,Tryz.ntmps46
 go_wp2_with (first|(go_at_call_of 90 d;refine (kd _).mono ?_;rintro e W1 ⟨rfl,h3⟩;obtain rfl:=h3.symm)|(go_at_call_of 90 h;refine (kh _).mono ?_;rintro e W1 ⟨rfl,h3⟩;obtain rfl:=h3.symm))
 go_ret
 exact⟨rfl,(Below.refl _ w).alloc (Nat.le_refl _) _⟩
theorem refConfig_e (d h l v u x t n:Int)(w:World)(kd:∀ w,Calls Tryz.prog 90 #[.int .i64 d,.int .i64 2,.int .i64 8] w fun e w'=>e=.returned (.bool true)∧w'=w)(g0:2≤d)(g1:d≤8)(g2:d%2=0)(kh:∀ w,Calls Tryz.prog 90 #[.int .i64 h,.int .i64 1,.int .i64 4] w fun e w'=>e=.returned (.bool true)∧w'=w)(g3:1≤h)(g4:h≤4)(g5:d%h=0)(g6:((d/h).tmod 2==0)=false) :
  Calls Tryz.prog 46 #[.agg #[.int .i64 d,.int .i64 h,.int .i64 l,.int .i64 v,.int .i64 u,.int .i64 x,.int .i64 t,.int .i64 n]] w fun e w'=>e=.returned (.bool false)∧Below w.heap.size w w':=by
 go_enter Tryz.func46,Tryz.ntmps46
 go_wp2_with (first|(go_at_call_of 90 d;refine (kd _).mono ?_;rintro e W1 ⟨rfl,h3⟩;obtain rfl:=h3.symm)|(go_at_call_of 90 h;refine (kh _).mono ?_;rintro e W1 ⟨rfl,h3⟩;obtain rfl:=h3.symm))
 go_ret
 exact⟨rfl,(Below.refl _ w).alloc (Nat.le_refl _) _⟩
theorem refConfig_f1 (d h l v u x t n:Int)(w:World)(kd:∀ w,Calls Tryz.prog 90 #[.int .i64 d,.int .i64 2,.int .i64 8] w fun e w'=>e=.returned (.bool true)∧w'=w)(g0:2≤d)(g1:d≤8)(g2:d%2=0)(kh:∀ w,Calls Tryz.prog 90 #[.int .i64 h,.int .i64 1,.int .i64 4] w fun e w'=>e=.returned (.bool true)∧w'=w)(g3:1≤h)(g4:h≤4)(g5:d%h=0)(g6:((d/h).tmod 2==0)=true)(x0:(x==0)=true)(t0:(t==0)=true)(B3 B4 B5 B6:Bool)(k3:∀ w,Calls Tryz.prog 90 #[.int .i64 l,.int .i64 1,.int .i64 2] w fun e w'=>e=.returned (.bool B3)∧w'=w)(k4:∀ w,Calls Tryz.prog 90 #[.int .i64 v,.int .i64 2,.int .i64 16] w fun e w'=>e=.returned (.bool B4)∧w'=w)(k5:∀ w,Calls Tryz.prog 90 #[.int .i64 u,.int .i64 1,.int .i64 8] w fun e w'=>e=.returned (.bool B5)∧w'=w)(k6:∀ w,Calls Tryz.prog 90 #[.int .i64 n,.int .i64 0,.int .i64 16] w fun e w'=>e=.returned (.bool B6)∧w'=w) :
  Calls Tryz.prog 46 #[.agg #[.int .i64 d,.int .i64 h,.int .i64 l,.int .i64 v,.int .i64 u,.int .i64 x,.int .i64 t,.int .i64 n]] w fun e w'=>e=.returned (.bool (B3 && (B4 && (B5 && (true && B6)))))∧Below w.heap.size w w':=by
 cases B3 with
 | false =>
  go_enter Tryz.func46,Tryz.ntmps46
  go_wp2_with (first|(go_at_call_of 90 d;refine (kd _).mono ?_;rintro e W1 ⟨rfl,h3⟩;obtain rfl:=h3.symm)|(go_at_call_of 90 h;refine (kh _).mono ?_;rintro e W1 ⟨rfl,h3⟩;obtain rfl:=h3.symm)|(go_at_call_of 90 l;refine (k3 _).mono ?_;rintro e W1 ⟨rfl,h3⟩;obtain rfl:=h3.symm)|(go_at_call_of 90 v;refine (k4 _).mono ?_;rintro e W1 ⟨rfl,h3⟩;obtain rfl:=h3.symm)|(go_at_call_of 90 u;refine (k5 _).mono ?_;rintro e W1 ⟨rfl,h3⟩;obtain rfl:=h3.symm)|(go_at_call_of 90 n;refine (k6 _).mono ?_;rintro e W1 ⟨rfl,h3⟩;obtain rfl:=h3.symm))
  go_ret
  exact⟨rfl,(Below.refl _ w).alloc (Nat.le_refl _) _⟩
 | true =>
  cases B4 with
  | false =>
   go_enter Tryz.func46,Tryz.ntmps46
   go_wp2_with (first|(go_at_call_of 90 d;refine (kd _).mono ?_;rintro e W1 ⟨rfl,h3⟩;obtain rfl:=h3.symm)|(go_at_call_of 90 h;refine (kh _).mono ?_;rintro e W1 ⟨rfl,h3⟩;obtain rfl:=h3.symm)|(go_at_call_of 90 l;refine (k3 _).mono ?_;rintro e W1 ⟨rfl,h3⟩;obtain rfl:=h3.symm)|(go_at_call_of 90 v;refine (k4 _).mono ?_;rintro e W1 ⟨rfl,h3⟩;obtain rfl:=h3.symm)|(go_at_call_of 90 u;refine (k5 _).mono ?_;rintro e W1 ⟨rfl,h3⟩;obtain rfl:=h3.symm)|(go_at_call_of 90 n;refine (k6 _).mono ?_;rintro e W1 ⟨rfl,h3⟩;obtain rfl:=h3.symm))
   go_ret
   exact⟨rfl,(Below.refl _ w).alloc (Nat.le_refl _) _⟩
  | true =>
   cases B5 with
   | false =>
    go_enter Tryz.func46,Tryz.ntmps46
    go_wp2_with (first|(go_at_call_of 90 d;refine (kd _).mono ?_;rintro e W1 ⟨rfl,h3⟩;obtain rfl:=h3.symm)|(go_at_call_of 90 h;refine (kh _).mono ?_;rintro e W1 ⟨rfl,h3⟩;obtain rfl:=h3.symm)|(go_at_call_of 90 l;refine (k3 _).mono ?_;rintro e W1 ⟨rfl,h3⟩;obtain rfl:=h3.symm)|(go_at_call_of 90 v;refine (k4 _).mono ?_;rintro e W1 ⟨rfl,h3⟩;obtain rfl:=h3.symm)|(go_at_call_of 90 u;refine (k5 _).mono ?_;rintro e W1 ⟨rfl,h3⟩;obtain rfl:=h3.symm)|(go_at_call_of 90 n;refine (k6 _).mono ?_;rintro e W1 ⟨rfl,h3⟩;obtain rfl:=h3.symm))
    go_ret
    exact⟨rfl,(Below.refl _ w).alloc (Nat.le_refl _) _⟩
   | true =>
    go_enter Tryz.func46,Tryz.ntmps46
    go_wp2_with (first|(go_at_call_of 90 d;refine (kd _).mono ?_;rintro e W1 ⟨rfl,h3⟩;obtain rfl:=h3.symm)|(go_at_call_of 90 h;refine (kh _).mono ?_;rintro e W1 ⟨rfl,h3⟩;obtain rfl:=h3.symm)|(go_at_call_of 90 l;refine (k3 _).mono ?_;rintro e W1 ⟨rfl,h3⟩;obtain rfl:=h3.symm)|(go_at_call_of 90 v;refine (k4 _).mono ?_;rintro e W1 ⟨rfl,h3⟩;obtain rfl:=h3.symm)|(go_at_call_of 90 u;refine (k5 _).mono ?_;rintro e W1 ⟨rfl,h3⟩;obtain rfl:=h3.symm)|(go_at_call_of 90 n;refine (k6 _).mono ?_;rintro e W1 ⟨rfl,h3⟩;obtain rfl:=h3.symm))
    go_ret
    exact⟨rfl,(Below.refl _ w).alloc (Nat.le_refl _) _⟩
theorem refConfig_f2 (d h l v u x t n:Int)(w:World)(kd:∀ w,Calls Tryz.prog 90 #[.int .i64 d,.int .i64 2,.int .i64 8] w fun e w'=>e=.returned (.bool true)∧w'=w)(g0:2≤d)(g1:d≤8)(g2:d%2=0)(kh:∀ w,Calls Tryz.prog 90 #[.int .i64 h,.int .i64 1,.int .i64 4] w fun e w'=>e=.returned (.bool true)∧w'=w)(g3:1≤h)(g4:h≤4)(g5:d%h=0)(g6:((d/h).tmod 2==0)=true)(x0:(x==0)=true)(t0:(t==0)=false)(kx:∀ w,Calls Tryz.prog 90 #[.int .i64 x,.int .i64 2,.int .i64 4] w fun e w'=>e=.returned (.bool false)∧w'=w)(B3 B4 B5 B6:Bool)(k3:∀ w,Calls Tryz.prog 90 #[.int .i64 l,.int .i64 1,.int .i64 2] w fun e w'=>e=.returned (.bool B3)∧w'=w)(k4:∀ w,Calls Tryz.prog 90 #[.int .i64 v,.int .i64 2,.int .i64 16] w fun e w'=>e=.returned (.bool B4)∧w'=w)(k5:∀ w,Calls Tryz.prog 90 #[.int .i64 u,.int .i64 1,.int .i64 8] w fun e w'=>e=.returned (.bool B5)∧w'=w)(k6:∀ w,Calls Tryz.prog 90 #[.int .i64 n,.int .i64 0,.int .i64 16] w fun e w'=>e=.returned (.bool B6)∧w'=w) :
  Calls Tryz.prog 46 #[.agg #[.int .i64 d,.int .i64 h,.int .i64 l,.int .i64 v,.int .i64 u,.int .i64 x,.int .i64 t,.int .i64 n]] w fun e w'=>e=.returned (.bool (B3 && (B4 && (B5 && (false && B6)))))∧Below w.heap.size w w':=by
 cases B3 with
 | false =>
  go_enter Tryz.func46,Tryz.ntmps46
  go_wp2_with (first|(go_at_call_of 90 x;refine (kx _).mono ?_;rintro e W1 ⟨rfl,h3⟩;obtain rfl:=h3.symm)|(go_at_call_of 90 d;refine (kd _).mono ?_;rintro e W1 ⟨rfl,h3⟩;obtain rfl:=h3.symm)|(go_at_call_of 90 h;refine (kh _).mono ?_;rintro e W1 ⟨rfl,h3⟩;obtain rfl:=h3.symm)|(go_at_call_of 90 l;refine (k3 _).mono ?_;rintro e W1 ⟨rfl,h3⟩;obtain rfl:=h3.symm)|(go_at_call_of 90 v;refine (k4 _).mono ?_;rintro e W1 ⟨rfl,h3⟩;obtain rfl:=h3.symm)|(go_at_call_of 90 u;refine (k5 _).mono ?_;rintro e W1 ⟨rfl,h3⟩;obtain rfl:=h3.symm)|(go_at_call_of 90 n;refine (k6 _).mono ?_;rintro e W1 ⟨rfl,h3⟩;obtain rfl:=h3.symm))
  go_ret
  exact⟨rfl,(Below.refl _ w).alloc (Nat.le_refl _) _⟩
 | true =>
  cases B4 with
  | false =>
   go_enter Tryz.func46,Tryz.ntmps46
   go_wp2_with (first|(go_at_call_of 90 x;refine (kx _).mono ?_;rintro e W1 ⟨rfl,h3⟩;obtain rfl:=h3.symm)|(go_at_call_of 90 d;refine (kd _).mono ?_;rintro e W1 ⟨rfl,h3⟩;obtain rfl:=h3.symm)|(go_at_call_of 90 h;refine (kh _).mono ?_;rintro e W1 ⟨rfl,h3⟩;obtain rfl:=h3.symm)|(go_at_call_of 90 l;refine (k3 _).mono ?_;rintro e W1 ⟨rfl,h3⟩;obtain rfl:=h3.symm)|(go_at_call_of 90 v;refine (k4 _).mono ?_;rintro e W1 ⟨rfl,h3⟩;obtain rfl:=h3.symm)|(go_at_call_of 90 u;refine (k5 _).mono ?_;rintro e W1 ⟨rfl,h3⟩;obtain rfl:=h3.symm)|(go_at_call_of 90 n;refine (k6 _).mono ?_;rintro e W1 ⟨rfl,h3⟩;obtain rfl:=h3.symm))
   go_ret
   exact⟨rfl,(Below.refl _ w).alloc (Nat.le_refl _) _⟩
  | true =>
   cases B5 with
   | false =>
    go_enter Tryz.func46,Tryz.ntmps46
    go_wp2_with (first|(go_at_call_of 90 x;refine (kx _).mono ?_;rintro e W1 ⟨rfl,h3⟩;obtain rfl:=h3.symm)|(go_at_call_of 90 d;refine (kd _).mono ?_;rintro e W1 ⟨rfl,h3⟩;obtain rfl:=h3.symm)|(go_at_call_of 90 h;refine (kh _).mono ?_;rintro e W1 ⟨rfl,h3⟩;obtain rfl:=h3.symm)|(go_at_call_of 90 l;refine (k3 _).mono ?_;rintro e W1 ⟨rfl,h3⟩;obtain rfl:=h3.symm)|(go_at_call_of 90 v;refine (k4 _).mono ?_;rintro e W1 ⟨rfl,h3⟩;obtain rfl:=h3.symm)|(go_at_call_of 90 u;refine (k5 _).mono ?_;rintro e W1 ⟨rfl,h3⟩;obtain rfl:=h3.symm)|(go_at_call_of 90 n;refine (k6 _).mono ?_;rintro e W1 ⟨rfl,h3⟩;obtain rfl:=h3.symm))
    go_ret
    exact⟨rfl,(Below.refl _ w).alloc (Nat.le_refl _) _⟩
   | true =>
    go_enter Tryz.func46,Tryz.ntmps46
    go_wp2_with (first|(go_at_call_of 90 x;refine (kx _).mono ?_;rintro e W1 ⟨rfl,h3⟩;obtain rfl:=h3.symm)|(go_at_call_of 90 d;refine (kd _).mono ?_;rintro e W1 ⟨rfl,h3⟩;obtain rfl:=h3.symm)|(go_at_call_of 90 h;refine (kh _).mono ?_;rintro e W1 ⟨rfl,h3⟩;obtain rfl:=h3.symm)|(go_at_call_of 90 l;refine (k3 _).mono ?_;rintro e W1 ⟨rfl,h3⟩;obtain rfl:=h3.symm)|(go_at_call_of 90 v;refine (k4 _).mono ?_;rintro e W1 ⟨rfl,h3⟩;obtain rfl:=h3.symm)|(go_at_call_of 90 u;refine (k5 _).mono ?_;rintro e W1 ⟨rfl,h3⟩;obtain rfl:=h3.symm)|(go_at_call_of 90 n;refine (k6 _).mono ?_;rintro e W1 ⟨rfl,h3⟩;obtain rfl:=h3.symm))
    go_ret
    exact⟨rfl,(Below.refl _ w).alloc (Nat.le_refl _) _⟩
theorem refConfig_f3 (d h l v u x t n:Int)(w:World)(kd:∀ w,Calls Tryz.prog 90 #[.int .i64 d,.int .i64 2,.int .i64 8] w fun e w'=>e=.returned (.bool true)∧w'=w)(g0:2≤d)(g1:d≤8)(g2:d%2=0)(kh:∀ w,Calls Tryz.prog 90 #[.int .i64 h,.int .i64 1,.int .i64 4] w fun e w'=>e=.returned (.bool true)∧w'=w)(g3:1≤h)(g4:h≤4)(g5:d%h=0)(g6:((d/h).tmod 2==0)=true)(x0:(x==0)=false)(kx:∀ w,Calls Tryz.prog 90 #[.int .i64 x,.int .i64 2,.int .i64 4] w fun e w'=>e=.returned (.bool false)∧w'=w)(B3 B4 B5 B6:Bool)(k3:∀ w,Calls Tryz.prog 90 #[.int .i64 l,.int .i64 1,.int .i64 2] w fun e w'=>e=.returned (.bool B3)∧w'=w)(k4:∀ w,Calls Tryz.prog 90 #[.int .i64 v,.int .i64 2,.int .i64 16] w fun e w'=>e=.returned (.bool B4)∧w'=w)(k5:∀ w,Calls Tryz.prog 90 #[.int .i64 u,.int .i64 1,.int .i64 8] w fun e w'=>e=.returned (.bool B5)∧w'=w)(k6:∀ w,Calls Tryz.prog 90 #[.int .i64 n,.int .i64 0,.int .i64 16] w fun e w'=>e=.returned (.bool B6)∧w'=w) :
  Calls Tryz.prog 46 #[.agg #[.int .i64 d,.int .i64 h,.int .i64 l,.int .i64 v,.int .i64 u,.int .i64 x,.int .i64 t,.int .i64 n]] w fun e w'=>e=.returned (.bool (B3 && (B4 && (B5 && (false && B6)))))∧Below w.heap.size w w':=by
 cases B3 with
 | false =>
  go_enter Tryz.func46,Tryz.ntmps46
  go_wp2_with (first|(go_at_call_of 90 x;refine (kx _).mono ?_;rintro e W1 ⟨rfl,h3⟩;obtain rfl:=h3.symm)|(go_at_call_of 90 d;refine (kd _).mono ?_;rintro e W1 ⟨rfl,h3⟩;obtain rfl:=h3.symm)|(go_at_call_of 90 h;refine (kh _).mono ?_;rintro e W1 ⟨rfl,h3⟩;obtain rfl:=h3.symm)|(go_at_call_of 90 l;refine (k3 _).mono ?_;rintro e W1 ⟨rfl,h3⟩;obtain rfl:=h3.symm)|(go_at_call_of 90 v;refine (k4 _).mono ?_;rintro e W1 ⟨rfl,h3⟩;obtain rfl:=h3.symm)|(go_at_call_of 90 u;refine (k5 _).mono ?_;rintro e W1 ⟨rfl,h3⟩;obtain rfl:=h3.symm)|(go_at_call_of 90 n;refine (k6 _).mono ?_;rintro e W1 ⟨rfl,h3⟩;obtain rfl:=h3.symm))
  go_ret
  exact⟨rfl,(Below.refl _ w).alloc (Nat.le_refl _) _⟩
 | true =>
  cases B4 with
  | false =>
   go_enter Tryz.func46,Tryz.ntmps46
   go_wp2_with (first|(go_at_call_of 90 x;refine (kx _).mono ?_;rintro e W1 ⟨rfl,h3⟩;obtain rfl:=h3.symm)|(go_at_call_of 90 d;refine (kd _).mono ?_;rintro e W1 ⟨rfl,h3⟩;obtain rfl:=h3.symm)|(go_at_call_of 90 h;refine (kh _).mono ?_;rintro e W1 ⟨rfl,h3⟩;obtain rfl:=h3.symm)|(go_at_call_of 90 l;refine (k3 _).mono ?_;rintro e W1 ⟨rfl,h3⟩;obtain rfl:=h3.symm)|(go_at_call_of 90 v;refine (k4 _).mono ?_;rintro e W1 ⟨rfl,h3⟩;obtain rfl:=h3.symm)|(go_at_call_of 90 u;refine (k5 _).mono ?_;rintro e W1 ⟨rfl,h3⟩;obtain rfl:=h3.symm)|(go_at_call_of 90 n;refine (k6 _).mono ?_;rintro e W1 ⟨rfl,h3⟩;obtain rfl:=h3.symm))
   go_ret
   exact⟨rfl,(Below.refl _ w).alloc (Nat.le_refl _) _⟩
  | true =>
   cases B5 with
   | false =>
    go_enter Tryz.func46,Tryz.ntmps46
    go_wp2_with (first|(go_at_call_of 90 x;refine (kx _).mono ?_;rintro e W1 ⟨rfl,h3⟩;obtain rfl:=h3.symm)|(go_at_call_of 90 d;refine (kd _).mono ?_;rintro e W1 ⟨rfl,h3⟩;obtain rfl:=h3.symm)|(go_at_call_of 90 h;refine (kh _).mono ?_;rintro e W1 ⟨rfl,h3⟩;obtain rfl:=h3.symm)|(go_at_call_of 90 l;refine (k3 _).mono ?_;rintro e W1 ⟨rfl,h3⟩;obtain rfl:=h3.symm)|(go_at_call_of 90 v;refine (k4 _).mono ?_;rintro e W1 ⟨rfl,h3⟩;obtain rfl:=h3.symm)|(go_at_call_of 90 u;refine (k5 _).mono ?_;rintro e W1 ⟨rfl,h3⟩;obtain rfl:=h3.symm)|(go_at_call_of 90 n;refine (k6 _).mono ?_;rintro e W1 ⟨rfl,h3⟩;obtain rfl:=h3.symm))
    go_ret
    exact⟨rfl,(Below.refl _ w).alloc (Nat.le_refl _) _⟩
   | true =>
    go_enter Tryz.func46,Tryz.ntmps46
    go_wp2_with (first|(go_at_call_of 90 x;refine (kx _).mono ?_;rintro e W1 ⟨rfl,h3⟩;obtain rfl:=h3.symm)|(go_at_call_of 90 d;refine (kd _).mono ?_;rintro e W1 ⟨rfl,h3⟩;obtain rfl:=h3.symm)|(go_at_call_of 90 h;refine (kh _).mono ?_;rintro e W1 ⟨rfl,h3⟩;obtain rfl:=h3.symm)|(go_at_call_of 90 l;refine (k3 _).mono ?_;rintro e W1 ⟨rfl,h3⟩;obtain rfl:=h3.symm)|(go_at_call_of 90 v;refine (k4 _).mono ?_;rintro e W1 ⟨rfl,h3⟩;obtain rfl:=h3.symm)|(go_at_call_of 90 u;refine (k5 _).mono ?_;rintro e W1 ⟨rfl,h3⟩;obtain rfl:=h3.symm)|(go_at_call_of 90 n;refine (k6 _).mono ?_;rintro e W1 ⟨rfl,h3⟩;obtain rfl:=h3.symm))
    go_ret
    exact⟨rfl,(Below.refl _ w).alloc (Nat.le_refl _) _⟩
theorem refConfig_f4 (d h l v u x t n:Int)(w:World)(kd:∀ w,Calls Tryz.prog 90 #[.int .i64 d,.int .i64 2,.int .i64 8] w fun e w'=>e=.returned (.bool true)∧w'=w)(g0:2≤d)(g1:d≤8)(g2:d%2=0)(kh:∀ w,Calls Tryz.prog 90 #[.int .i64 h,.int .i64 1,.int .i64 4] w fun e w'=>e=.returned (.bool true)∧w'=w)(g3:1≤h)(g4:h≤4)(g5:d%h=0)(g6:((d/h).tmod 2==0)=true)(x0:(x==0)=false)(kx:∀ w,Calls Tryz.prog 90 #[.int .i64 x,.int .i64 2,.int .i64 4] w fun e w'=>e=.returned (.bool true)∧w'=w)(kt:∀ w,Calls Tryz.prog 90 #[.int .i64 t,.int .i64 1,.int .i64 x] w fun e w'=>e=.returned (.bool false)∧w'=w)(B3 B4 B5 B6:Bool)(k3:∀ w,Calls Tryz.prog 90 #[.int .i64 l,.int .i64 1,.int .i64 2] w fun e w'=>e=.returned (.bool B3)∧w'=w)(k4:∀ w,Calls Tryz.prog 90 #[.int .i64 v,.int .i64 2,.int .i64 16] w fun e w'=>e=.returned (.bool B4)∧w'=w)(k5:∀ w,Calls Tryz.prog 90 #[.int .i64 u,.int .i64 1,.int .i64 8] w fun e w'=>e=.returned (.bool B5)∧w'=w)(k6:∀ w,Calls Tryz.prog 90 #[.int .i64 n,.int .i64 0,.int .i64 16] w fun e w'=>e=.returned (.bool B6)∧w'=w) :
  Calls Tryz.prog 46 #[.agg #[.int .i64 d,.int .i64 h,.int .i64 l,.int .i64 v,.int .i64 u,.int .i64 x,.int .i64 t,.int .i64 n]] w fun e w'=>e=.returned (.bool (B3 && (B4 && (B5 && (false && B6)))))∧Below w.heap.size w w':=by
 cases B3 with
 | false =>
  go_enter Tryz.func46,Tryz.ntmps46
  go_wp2_with (first|(go_at_call_of 90 t;refine (kt _).mono ?_;rintro e W1 ⟨rfl,h3⟩;obtain rfl:=h3.symm)|(go_at_call_of 90 x;refine (kx _).mono ?_;rintro e W1 ⟨rfl,h3⟩;obtain rfl:=h3.symm)|(go_at_call_of 90 d;refine (kd _).mono ?_;rintro e W1 ⟨rfl,h3⟩;obtain rfl:=h3.symm)|(go_at_call_of 90 h;refine (kh _).mono ?_;rintro e W1 ⟨rfl,h3⟩;obtain rfl:=h3.symm)|(go_at_call_of 90 l;refine (k3 _).mono ?_;rintro e W1 ⟨rfl,h3⟩;obtain rfl:=h3.symm)|(go_at_call_of 90 v;refine (k4 _).mono ?_;rintro e W1 ⟨rfl,h3⟩;obtain rfl:=h3.symm)|(go_at_call_of 90 u;refine (k5 _).mono ?_;rintro e W1 ⟨rfl,h3⟩;obtain rfl:=h3.symm)|(go_at_call_of 90 n;refine (k6 _).mono ?_;rintro e W1 ⟨rfl,h3⟩;obtain rfl:=h3.symm))
  go_ret
  exact⟨rfl,(Below.refl _ w).alloc (Nat.le_refl _) _⟩
 | true =>
  cases B4 with
  | false =>
   go_enter Tryz.func46,Tryz.ntmps46
   go_wp2_with (first|(go_at_call_of 90 t;refine (kt _).mono ?_;rintro e W1 ⟨rfl,h3⟩;obtain rfl:=h3.symm)|(go_at_call_of 90 x;refine (kx _).mono ?_;rintro e W1 ⟨rfl,h3⟩;obtain rfl:=h3.symm)|(go_at_call_of 90 d;refine (kd _).mono ?_;rintro e W1 ⟨rfl,h3⟩;obtain rfl:=h3.symm)|(go_at_call_of 90 h;refine (kh _).mono ?_;rintro e W1 ⟨rfl,h3⟩;obtain rfl:=h3.symm)|(go_at_call_of 90 l;refine (k3 _).mono ?_;rintro e W1 ⟨rfl,h3⟩;obtain rfl:=h3.symm)|(go_at_call_of 90 v;refine (k4 _).mono ?_;rintro e W1 ⟨rfl,h3⟩;obtain rfl:=h3.symm)|(go_at_call_of 90 u;refine (k5 _).mono ?_;rintro e W1 ⟨rfl,h3⟩;obtain rfl:=h3.symm)|(go_at_call_of 90 n;refine (k6 _).mono ?_;rintro e W1 ⟨rfl,h3⟩;obtain rfl:=h3.symm))
   go_ret
   exact⟨rfl,(Below.refl _ w).alloc (Nat.le_refl _) _⟩
  | true =>
   cases B5 with
   | false =>
    go_enter Tryz.func46,Tryz.ntmps46
    go_wp2_with (first|(go_at_call_of 90 t;refine (kt _).mono ?_;rintro e W1 ⟨rfl,h3⟩;obtain rfl:=h3.symm)|(go_at_call_of 90 x;refine (kx _).mono ?_;rintro e W1 ⟨rfl,h3⟩;obtain rfl:=h3.symm)|(go_at_call_of 90 d;refine (kd _).mono ?_;rintro e W1 ⟨rfl,h3⟩;obtain rfl:=h3.symm)|(go_at_call_of 90 h;refine (kh _).mono ?_;rintro e W1 ⟨rfl,h3⟩;obtain rfl:=h3.symm)|(go_at_call_of 90 l;refine (k3 _).mono ?_;rintro e W1 ⟨rfl,h3⟩;obtain rfl:=h3.symm)|(go_at_call_of 90 v;refine (k4 _).mono ?_;rintro e W1 ⟨rfl,h3⟩;obtain rfl:=h3.symm)|(go_at_call_of 90 u;refine (k5 _).mono ?_;rintro e W1 ⟨rfl,h3⟩;obtain rfl:=h3.symm)|(go_at_call_of 90 n;refine (k6 _).mono ?_;rintro e W1 ⟨rfl,h3⟩;obtain rfl:=h3.symm))
    go_ret
    exact⟨rfl,(Below.refl _ w).alloc (Nat.le_refl _) _⟩
   | true =>
    go_enter Tryz.func46,Tryz.ntmps46
    go_wp2_with (first|(go_at_call_of 90 t;refine (kt _).mono ?_;rintro e W1 ⟨rfl,h3⟩;obtain rfl:=h3.symm)|(go_at_call_of 90 x;refine (kx _).mono ?_;rintro e W1 ⟨rfl,h3⟩;obtain rfl:=h3.symm)|(go_at_call_of 90 d;refine (kd _).mono ?_;rintro e W1 ⟨rfl,h3⟩;obtain rfl:=h3.symm)|(go_at_call_of 90 h;refine (kh _).mono ?_;rintro e W1 ⟨rfl,h3⟩;obtain rfl:=h3.symm)|(go_at_call_of 90 l;refine (k3 _).mono ?_;rintro e W1 ⟨rfl,h3⟩;obtain rfl:=h3.symm)|(go_at_call_of 90 v;refine (k4 _).mono ?_;rintro e W1 ⟨rfl,h3⟩;obtain rfl:=h3.symm)|(go_at_call_of 90 u;refine (k5 _).mono ?_;rintro e W1 ⟨rfl,h3⟩;obtain rfl:=h3.symm)|(go_at_call_of 90 n;refine (k6 _).mono ?_;rintro e W1 ⟨rfl,h3⟩;obtain rfl:=h3.symm))
    go_ret
    exact⟨rfl,(Below.refl _ w).alloc (Nat.le_refl _) _⟩
theorem refConfig_f5 (d h l v u x t n:Int)(w:World)(kd:∀ w,Calls Tryz.prog 90 #[.int .i64 d,.int .i64 2,.int .i64 8] w fun e w'=>e=.returned (.bool true)∧w'=w)(g0:2≤d)(g1:d≤8)(g2:d%2=0)(kh:∀ w,Calls Tryz.prog 90 #[.int .i64 h,.int .i64 1,.int .i64 4] w fun e w'=>e=.returned (.bool true)∧w'=w)(g3:1≤h)(g4:h≤4)(g5:d%h=0)(g6:((d/h).tmod 2==0)=true)(x0:(x==0)=false)(kx:∀ w,Calls Tryz.prog 90 #[.int .i64 x,.int .i64 2,.int .i64 4] w fun e w'=>e=.returned (.bool true)∧w'=w)(kt:∀ w,Calls Tryz.prog 90 #[.int .i64 t,.int .i64 1,.int .i64 x] w fun e w'=>e=.returned (.bool true)∧w'=w)(B3 B4 B5 B6:Bool)(k3:∀ w,Calls Tryz.prog 90 #[.int .i64 l,.int .i64 1,.int .i64 2] w fun e w'=>e=.returned (.bool B3)∧w'=w)(k4:∀ w,Calls Tryz.prog 90 #[.int .i64 v,.int .i64 2,.int .i64 16] w fun e w'=>e=.returned (.bool B4)∧w'=w)(k5:∀ w,Calls Tryz.prog 90 #[.int .i64 u,.int .i64 1,.int .i64 8] w fun e w'=>e=.returned (.bool B5)∧w'=w)(k6:∀ w,Calls Tryz.prog 90 #[.int .i64 n,.int .i64 0,.int .i64 16] w fun e w'=>e=.returned (.bool B6)∧w'=w) :
  Calls Tryz.prog 46 #[.agg #[.int .i64 d,.int .i64 h,.int .i64 l,.int .i64 v,.int .i64 u,.int .i64 x,.int .i64 t,.int .i64 n]] w fun e w'=>e=.returned (.bool (B3 && (B4 && (B5 && (true && B6)))))∧Below w.heap.size w w':=by
 cases B3 with
 | false =>
  go_enter Tryz.func46,Tryz.ntmps46
  go_wp2_with (first|(go_at_call_of 90 t;refine (kt _).mono ?_;rintro e W1 ⟨rfl,h3⟩;obtain rfl:=h3.symm)|(go_at_call_of 90 x;refine (kx _).mono ?_;rintro e W1 ⟨rfl,h3⟩;obtain rfl:=h3.symm)|(go_at_call_of 90 d;refine (kd _).mono ?_;rintro e W1 ⟨rfl,h3⟩;obtain rfl:=h3.symm)|(go_at_call_of 90 h;refine (kh _).mono ?_;rintro e W1 ⟨rfl,h3⟩;obtain rfl:=h3.symm)|(go_at_call_of 90 l;refine (k3 _).mono ?_;rintro e W1 ⟨rfl,h3⟩;obtain rfl:=h3.symm)|(go_at_call_of 90 v;refine (k4 _).mono ?_;rintro e W1 ⟨rfl,h3⟩;obtain rfl:=h3.symm)|(go_at_call_of 90 u;refine (k5 _).mono ?_;rintro e W1 ⟨rfl,h3⟩;obtain rfl:=h3.symm)|(go_at_call_of 90 n;refine (k6 _).mono ?_;rintro e W1 ⟨rfl,h3⟩;obtain rfl:=h3.symm))
  go_ret
  exact⟨rfl,(Below.refl _ w).alloc (Nat.le_refl _) _⟩
 | true =>
  cases B4 with
  | false =>
   go_enter Tryz.func46,Tryz.ntmps46
   go_wp2_with (first|(go_at_call_of 90 t;refine (kt _).mono ?_;rintro e W1 ⟨rfl,h3⟩;obtain rfl:=h3.symm)|(go_at_call_of 90 x;refine (kx _).mono ?_;rintro e W1 ⟨rfl,h3⟩;obtain rfl:=h3.symm)|(go_at_call_of 90 d;refine (kd _).mono ?_;rintro e W1 ⟨rfl,h3⟩;obtain rfl:=h3.symm)|(go_at_call_of 90 h;refine (kh _).mono ?_;rintro e W1 ⟨rfl,h3⟩;obtain rfl:=h3.symm)|(go_at_call_of 90 l;refine (k3 _).mono ?_;rintro e W1 ⟨rfl,h3⟩;obtain rfl:=h3.symm)|(go_at_call_of 90 v;refine (k4 _).mono ?_;rintro e W1 ⟨rfl,h3⟩;obtain rfl:=h3.symm)|(go_at_call_of 90 u;refine (k5 _).mono ?_;rintro e W1 ⟨rfl,h3⟩;obtain rfl:=h3.symm)|(go_at_call_of 90 n;refine (k6 _).mono ?_;rintro e W1 ⟨rfl,h3⟩;obtain rfl:=h3.symm))
   go_ret
   exact⟨rfl,(Below.refl _ w).alloc (Nat.le_refl _) _⟩
  | true =>
   cases B5 with
   | false =>
    go_enter Tryz.func46,Tryz.ntmps46
    go_wp2_with (first|(go_at_call_of 90 t;refine (kt _).mono ?_;rintro e W1 ⟨rfl,h3⟩;obtain rfl:=h3.symm)|(go_at_call_of 90 x;refine (kx _).mono ?_;rintro e W1 ⟨rfl,h3⟩;obtain rfl:=h3.symm)|(go_at_call_of 90 d;refine (kd _).mono ?_;rintro e W1 ⟨rfl,h3⟩;obtain rfl:=h3.symm)|(go_at_call_of 90 h;refine (kh _).mono ?_;rintro e W1 ⟨rfl,h3⟩;obtain rfl:=h3.symm)|(go_at_call_of 90 l;refine (k3 _).mono ?_;rintro e W1 ⟨rfl,h3⟩;obtain rfl:=h3.symm)|(go_at_call_of 90 v;refine (k4 _).mono ?_;rintro e W1 ⟨rfl,h3⟩;obtain rfl:=h3.symm)|(go_at_call_of 90 u;refine (k5 _).mono ?_;rintro e W1 ⟨rfl,h3⟩;obtain rfl:=h3.symm)|(go_at_call_of 90 n;refine (k6 _).mono ?_;rintro e W1 ⟨rfl,h3⟩;obtain rfl:=h3.symm))
    go_ret
    exact⟨rfl,(Below.refl _ w).alloc (Nat.le_refl _) _⟩
   | true =>
    go_enter Tryz.func46,Tryz.ntmps46
    go_wp2_with (first|(go_at_call_of 90 t;refine (kt _).mono ?_;rintro e W1 ⟨rfl,h3⟩;obtain rfl:=h3.symm)|(go_at_call_of 90 x;refine (kx _).mono ?_;rintro e W1 ⟨rfl,h3⟩;obtain rfl:=h3.symm)|(go_at_call_of 90 d;refine (kd _).mono ?_;rintro e W1 ⟨rfl,h3⟩;obtain rfl:=h3.symm)|(go_at_call_of 90 h;refine (kh _).mono ?_;rintro e W1 ⟨rfl,h3⟩;obtain rfl:=h3.symm)|(go_at_call_of 90 l;refine (k3 _).mono ?_;rintro e W1 ⟨rfl,h3⟩;obtain rfl:=h3.symm)|(go_at_call_of 90 v;refine (k4 _).mono ?_;rintro e W1 ⟨rfl,h3⟩;obtain rfl:=h3.symm)|(go_at_call_of 90 u;refine (k5 _).mono ?_;rintro e W1 ⟨rfl,h3⟩;obtain rfl:=h3.symm)|(go_at_call_of 90 n;refine (k6 _).mono ?_;rintro e W1 ⟨rfl,h3⟩;obtain rfl:=h3.symm))
    go_ret
    exact⟨rfl,(Below.refl _ w).alloc (Nat.le_refl _) _⟩
theorem even_div {d h:Int}(h1:1≤h)(g5:d%h=0)(g6:d/h%2=0):d%2=0:=by
 have e:=Int.mul_ediv_add_emod d h
 rw[g5,Int.add_zero] at e
 obtain⟨k,ek⟩:=Int.dvd_of_emod_eq_zero g6
 rw[←e,ek]
 rw[show h*(2*k)=2*(h*k) by rw[←Int.mul_assoc,Int.mul_comm h 2,Int.mul_assoc]]
 omega
theorem heads_few {d h:Int}(h0:2≤d)(h8:d≤8)(h1:1≤h)(g5:d%h=0)(g6:d/h%2=0):h≤4:=by
 have e:=Int.mul_ediv_add_emod d h
 rw[g5,Int.add_zero] at e
 have p:0≤d/h:=Int.ediv_nonneg (by omega) (by omega)
 obtain⟨q,eq⟩:∃ q,d/h=q:=⟨_,rfl⟩
 rw[eq] at e g6 p
 have q0:q≠0:=fun z=>by rw[z] at e;simp at e;omega
 have q2:2≤q:=by omega
 have:h*2≤h*q:=Int.mul_le_mul_of_nonneg_left q2 (by omega)
 omega
theorem refConfig_call (d h l v u x t n:Int)(w:World):Calls Tryz.prog 46 #[.agg #[.int .i64 d,.int .i64 h,.int .i64 l,.int .i64 v,.int .i64 u,.int .i64 x,.int .i64 t,.int .i64 n]] w fun e w'=>e=.returned (.bool (okB d h l v u x t n))∧Below w.heap.size w w':=by
 have kd:=in_call d 2 8
 have kh:=in_call h 1 4
 have kx:=in_call x 2 4
 have kt:=in_call t 1 x
 have k3:=in_call l 1 2
 have k4:=in_call v 2 16
 have k5:=in_call u 1 8
 have k6:=in_call n 0 16
 unfold okB
 obtain⟨B3,e3⟩:∃ B,decide (1≤l∧l≤2)=B:=⟨_,rfl⟩
 obtain⟨B4,e4⟩:∃ B,decide (2≤v∧v≤16)=B:=⟨_,rfl⟩
 obtain⟨B5,e5⟩:∃ B,decide (1≤u∧u≤8)=B:=⟨_,rfl⟩
 obtain⟨B6,e6⟩:∃ B,decide (0≤n∧n≤16)=B:=⟨_,rfl⟩
 simp only[e3] at k3 ⊢
 simp only[e4] at k4 ⊢
 simp only[e5] at k5 ⊢
 simp only[e6] at k6 ⊢
 have no:headsB d h=false→(headsB d h && (expertsB x t && (B3 && (B4 && (B5 && B6)))))=false:=fun e=>by rw[e];rfl
 by_cases g0:2≤d∧d≤8
 ·simp only[decide_eq_true g0] at kd
  by_cases g2:d%2=0
  ·by_cases g3:1≤h∧h≤4
   ·simp only[decide_eq_true g3] at kh
    by_cases g5:d%h=0
    ·have em:(d/h).tmod 2=d/h%2:=Int.tmod_eq_emod_of_nonneg (Int.ediv_nonneg (by have:=g0.1;omega) (by have:=g3.1;omega))
     by_cases g6:d/h%2=0
     ·have g6':((d/h).tmod 2==0)=true:=by rw[em];simp[g6]
      have ey:headsB d h=true:=by rw[heads_yes g0 g3.1 g5];exact g6'
      rw[ey]
      have fin:∀ E:Bool,expertsB x t=E→(true && (expertsB x t && (B3 && (B4 && (B5 && B6)))))=(B3 && (B4 && (B5 && (E && B6)))):=fun E e=>by
       rw[e];cases E<;>cases B3<;>cases B4<;>cases B5<;>cases B6<;>rfl
      by_cases x0:x=0
      ·by_cases t0:t=0
       ·rw[fin true (by unfold expertsB;exact decide_eq_true (Or.inl ⟨x0,t0⟩))]
        exact refConfig_f1 d h l v u x t n w kd g0.1 g0.2 g2 kh g3.1 g3.2 g5 g6' (by simp[x0]) (by simp[t0]) B3 B4 B5 B6 k3 k4 k5 k6
       ·rw[fin false (by unfold expertsB;exact decide_eq_false (by omega))]
        simp only[show decide (2≤x∧x≤4)=false from decide_eq_false (by omega)] at kx
        exact refConfig_f2 d h l v u x t n w kd g0.1 g0.2 g2 kh g3.1 g3.2 g5 g6' (by simp[x0]) (by simp[t0]) kx B3 B4 B5 B6 k3 k4 k5 k6
      ·by_cases x1:2≤x∧x≤4
       ·simp only[decide_eq_true x1] at kx
        by_cases t1:1≤t∧t≤x
        ·simp only[decide_eq_true t1] at kt
         rw[fin true (by unfold expertsB;exact decide_eq_true (by omega))]
         exact refConfig_f5 d h l v u x t n w kd g0.1 g0.2 g2 kh g3.1 g3.2 g5 g6' (by simp[x0]) kx kt B3 B4 B5 B6 k3 k4 k5 k6
        ·simp only[decide_eq_false t1] at kt
         rw[fin false (by unfold expertsB;exact decide_eq_false (by omega))]
         exact refConfig_f4 d h l v u x t n w kd g0.1 g0.2 g2 kh g3.1 g3.2 g5 g6' (by simp[x0]) kx kt B3 B4 B5 B6 k3 k4 k5 k6
       ·simp only[decide_eq_false x1] at kx
        rw[fin false (by unfold expertsB;exact decide_eq_false (by omega))]
        exact refConfig_f3 d h l v u x t n w kd g0.1 g0.2 g2 kh g3.1 g3.2 g5 g6' (by simp[x0]) kx B3 B4 B5 B6 k3 k4 k5 k6
     ·have g6':((d/h).tmod 2==0)=false:=by rw[em];simp[g6]
      rw[no (by rw[heads_yes g0 g3.1 g5];exact g6')]
      exact refConfig_e d h l v u x t n w kd g0.1 g0.2 g2 kh g3.1 g3.2 g5 g6'
    ·rw[no (heads_no2 g5)]
     exact refConfig_d d h l v u x t n w kd g0.1 g0.2 g2 kh g3.1 g3.2 (by simp[g5])
   ·simp only[decide_eq_false g3] at kh
    rw[no (decide_eq_false fun y=>g3 ⟨y.2.2.1,heads_few g0.1 g0.2 y.2.2.1 y.2.2.2.1 y.2.2.2.2⟩)]
    exact refConfig_c d h l v u x t n w kd g0.1 g0.2 g2 kh
  ·rw[no (decide_eq_false fun y=>g2 (even_div y.2.2.1 y.2.2.2.1 y.2.2.2.2))]
   exact refConfig_b d h l v u x t n w kd g0.1 g0.2 (by omega)
 ·simp only[decide_eq_false g0] at kd
  rw[no (heads_no0 g0)]
  exact refConfig_a d h l v u x t n w kd
end Go.Proofs.YtbkjhfmehemgpaaGreat

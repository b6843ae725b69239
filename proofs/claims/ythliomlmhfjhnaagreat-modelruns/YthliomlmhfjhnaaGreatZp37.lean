/- Texts put together. -/
import Derived.Test.YthliomlmhfjhnaaGreatZp34
import Derived.Test.YthliomlmhfjhnaaGreatZp28
import Derived.Test.YthliomlmhfjhnaaGreatZp29
import Derived.Test.YthliomlmhfjhnaaGreatZp32
import Derived.Test.YthliomlmhfjhnaaGreatZp24
import Derived.Test.YthliomlmhfjhnaaGreatZp36
namespace Go.Proofs.YthliomlmhfjhnaaGreat
set_option maxRecDepth 20000
set_option maxHeartbeats 16000000
open Go.ChangeShapes Go.WideShapes Go.ChangeAt Go.RowKit
set_option linter.unusedVariables false
set_option linter.unusedSimpArgs false
theorem QfU {w:World}{s:SL}{k:Nat}{R:Nat→SL}{Z:Nat→List Int}(h:IsG w s k R Z)(hk:k≤100)(hb:∀ j,j<k→(Z j).length*8≤140737488355328):Nets w s.a k (fun j=>(R j).a) (fun j=>(R j).c) Z :=
 ⟨⟨by omega,h.some_,fun x hx r hr=>by rw[h.cell x hx r hr];unfold SL.v;rw[←(h.row r hr).reads.len],fun r hr=>by have:=(h.row r hr).reads;rwa [←this.len] at this⟩,
  fun r hr=>by rw[(h.row r hr).reads.len];exact (h.row r hr).cap,fun r hr=>(h.row r hr).nil,hb⟩
theorem QnP {M:Md}(F:Qaq M):M.D*M.D≤64:=Nat.mul_le_mul F.d1 F.d1
theorem Qae {z:Int}(h0:-1000≤z)(h1:z≤1000):(Lit.int .i64 z).wf=true:=WalkArith.wf_i64 ⟨by omega,by omega⟩
theorem QeS {M:Md}(F:Qaq M){i:Nat}(hi:i<M.m.ln)(j:Nat)(h1:1≤j)(h4:j≤4)(s:SL)(w:World)(hs:IsS w s (M.m.f i j))(a2:Option Addr)(c2:Nat)(xs:List Int)(h2:Reads .i64 w a2 M.D xs) :
  Calls Tryz.prog 49 #[s.w,I4 M.d,.slice a2 M.D c2] w fun e w'=>(∃ a c,e=.returned (.tuple #[.slice a M.D c,I4 0])∧Reads .i64 w' a M.D (matL (M.m.f i j) xs)∧M.D≤c∧∀ x,a=some x→w.heap.size≤x.block)∧Bw w w':=by
 have d0:=F.d0
 have d1:=F.d1
 have hn:s.n=M.D*M.D:=by rw[←hs.reads.len,F.fq i hi j h1 h4]
 have hq:s.n/M.D=M.D:=by rw[hn,Nat.mul_div_cancel _ (by omega)]
 have sq:=QnP F
 have hf:fitB s.n M.d M.D=true:=Qf7 (by omega) (by rw[hn,Int.natCast_mul,←F.eD]) (by have:=F.eD;omega)
 have k:=QeT s.a s.n s.c _ M.d a2 M.D c2 xs w hs.reads hs.cap h2 hf (by omega)
 rw[hq] at k
 exact k.mono fun e w' ⟨⟨cs,q1,q2,_⟩,q3⟩=>⟨⟨_,_,q1,q2,Nat.le_refl _,fun x hx=>Nat.le_of_eq (congrArg Addr.block (Option.some.inj hx))⟩,q3⟩
theorem QiK {M:Md}(F:Qaq M){i:Nat}(hi:i<M.m.ln)(j:Nat)(h1:1≤j)(h4:j≤4)(s:SL)(w:World)(hs:IsS w s (M.m.f i j))(a2:Option Addr)(c2:Nat)(xs:List Int)(h2:Reads .i64 w a2 M.D xs) :
  Calls Tryz.prog 51 #[s.w,I4 M.d,.slice a2 M.D c2] w fun e w'=>(∃ a c,e=.returned (.tuple #[.slice a M.D c,I4 0])∧Reads .i64 w' a M.D (matL (M.m.f i j) xs)∧M.D≤c)∧Bw w w':=by
 have d0:=F.d0
 have d1:=F.d1
 have hn:s.n=M.D*M.D:=by rw[←hs.reads.len,F.fq i hi j h1 h4]
 have sq:=QnP F
 have k:=QeG s.a s.n s.c _ M.D a2 M.D c2 xs w hs.reads hs.cap h2 (by omega) hn (by omega)
 rw[←F.eD] at k
 refine k.mono fun e w' ⟨⟨a,c,q1,q2,_,q4⟩,q3⟩=>⟨⟨_,_,q1,?_,q4⟩,q3⟩
 unfold matL
 rw[h2.len,F.fq i hi j h1 h4,Nat.mul_div_cancel _ (show 0<M.D by omega)]
 exact q2
theorem QiS {M:Md}(F:Qaq M)(s:SL)(zs:List Int)(hl:zs.length=M.D)(w:World)(hs:IsS w s zs)(a:Option Addr)(c:Nat)(xs:List Int)(h:Reads .i64 w a M.D xs) :
  Calls Tryz.prog 64 #[.slice a M.D c,.slice s.a s.n s.c] w fun e w'=>(∃ a c,e=.returned (.tuple #[.slice a M.D c,I4 0])∧Reads .i64 w' a M.D (rmsZ xs zs M.D)∧∀ x,a=some x→w.heap.size≤x.block)∧Bw w w':=by
 have d0:=F.d0
 have d1:=F.d1
 have r:=hs.reads
 have hn:s.n=M.D:=by rw[←r.len,hl]
 rw[hn] at r ⊢
 exact Ql4 a M.D c xs s.a s.c zs w h r (by omega) (by omega)
theorem QkT {M:Md}(F:Qaq M)(s:SL)(zs:List Int)(hl:zs.length=M.D)(w:World)(hs:IsS w s zs)(a:Option Addr)(c:Nat)(xs:List Int)(h:Reads .i64 w a M.D xs) :
  Calls Tryz.prog 34 #[.slice a M.D c,.slice s.a s.n s.c] w fun e w'=>(∃ a c,e=.returned (.tuple #[.slice a M.D c,I4 0])∧Reads .i64 w' a M.D (rmsZ xs zs M.D)∧∀ x,a=some x→w.heap.size≤x.block)∧Bw w w':=by
 have d0:=F.d0
 have d1:=F.d1
 have r:=hs.reads
 have hn:s.n=M.D:=by rw[←r.len,hl]
 rw[hn] at r ⊢
 exact QhW a M.D c xs s.a s.c zs w h r (by omega) (by omega)
theorem QmP {M:Md}(F:Qaq M)(w:World)(a0:Option Addr)(c0:Nat)(xs:List Int)(a1:Option Addr)(c1:Nat)(ys:List Int)(h0:Reads .i64 w a0 M.D xs)(h1:Reads .i64 w a1 M.D ys) :
  Calls Tryz.prog 93 #[.slice a0 M.D c0,.slice a1 M.D c1] w fun e w'=>(∃ a c,e=.returned (.tuple #[.slice a M.D c,I4 0])∧Reads .i64 w' a M.D (Qc8 xs ys)∧M.D≤c∧∀ x,a=some x→w.heap.size≤x.block)∧Bw w w':=by
 have d1:=F.d1
 unfold Qc8
 rw[h0.len]
 exact QlF a0 M.D c0 xs a1 c1 ys w h0 h1 (by omega)
theorem QmO {M:Md}(F:Qaq M)(w:World)(a0:Option Addr)(c0:Nat)(xs:List Int)(a1:Option Addr)(c1:Nat)(ys:List Int)(h0:Reads .i64 w a0 M.D xs)(h1:Reads .i64 w a1 M.D ys) :
  Calls Tryz.prog 70 #[.slice a0 M.D c0,.slice a1 M.D c1] w fun e w'=>(∃ a c,e=.returned (.tuple #[.slice a M.D c,I4 0])∧Reads .i64 w' a M.D (Qc8 xs ys)∧M.D≤c∧∀ x,a=some x→w.heap.size≤x.block)∧Bw w w':=by
 have d1:=F.d1
 unfold Qc8
 rw[h0.len]
 exact QgN a0 M.D c0 xs a1 c1 ys w h0 h1 (by omega)
theorem QiT {M:Md}(F:Qaq M){R:Nat}(A:QcX M R){i:Nat}(hi:i<M.m.ln)(j:Nat)(hj:j<3)(s s':SL)(w:World)(hs:IsS w s (M.a.f i j))(hs':IsS w s' (M.a.f i (j+1)))(a2:Option Addr)(c2:Nat)(xs:List Int)(h2:Reads .i64 w a2 M.D xs) :
  Calls Tryz.prog 94 #[s.w,s'.w,I4 M.r,I4 M.s,.slice a2 M.D c2] w fun e w'=>(∃ a c,e=.returned (.tuple #[.slice a M.D c,I4 0])∧Reads .i64 w' a M.D (QdF (M.a.f i j) (M.a.f i (j+1)) M.r M.s xs))∧Bw w w':=by
 have d1:=F.d1
 have r1:=A.r1
 have s0:=A.s0
 have s1:=A.s1
 have r0:=A.r0
 have er:=A.er
 have pr:R*M.D≤4*8:=Nat.mul_le_mul r1 d1
 have n1:s.n=R*M.D:=by rw[←hs.reads.len,A.f i hi j (by omega)]
 have n2:s'.n=R*M.D:=by rw[←hs'.reads.len,A.f i hi (j+1) (by omega)]
 have ok:=QlE F A hi hj h2.len
 refine (QjS s.a s.n s.c _ s'.a s'.n s'.c _ M.r M.s a2 M.D c2 xs w hs.reads hs.cap hs'.reads hs'.cap h2 (Qae (by omega) (by omega)) (Qae (by omega) (by omega)) (by omega) (by omega)).mono ?_
 rintro e w' ⟨a,m,c,rfl,r,hb⟩
 have em:QjT (M.a.f i j) (M.a.f i (j+1)) M.r xs=0:=if_pos ok
 have lm:m=M.D:=by
  rw[←r.len]
  unfold QdF
  rw[if_pos ok,List.length_map,List.length_range,h2.len]
 subst lm
 exact⟨⟨a,c,by rw[em],r⟩,hb⟩
theorem Ql8 {M:Md}(F:Qaq M){R:Nat}(A:QcX M R){i:Nat}(hi:i<M.m.ln)(j:Nat)(hj:j<3)(s s':SL)(w:World)(hs:IsS w s (M.a.f i j))(hs':IsS w s' (M.a.f i (j+1)))(a2:Option Addr)(c2:Nat)(xs:List Int)(h2:Reads .i64 w a2 M.D xs) :
  Calls Tryz.prog 105 #[s.w,s'.w,I4 M.r,I4 M.s,.slice a2 M.D c2] w fun e w'=>(∃ a c,e=.returned (.tuple #[.slice a M.D c,I4 0])∧Reads .i64 w' a M.D (QdF (M.a.f i j) (M.a.f i (j+1)) M.r M.s xs))∧Bw w w':=by
 have d1:=F.d1
 have r1:=A.r1
 have s0:=A.s0
 have s1:=A.s1
 have r0:=A.r0
 have er:=A.er
 have pr:R*M.D≤4*8:=Nat.mul_le_mul r1 d1
 have n1:s.n=R*M.D:=by rw[←hs.reads.len,A.f i hi j (by omega)]
 have n2:s'.n=R*M.D:=by rw[←hs'.reads.len,A.f i hi (j+1) (by omega)]
 have ok:=QlE F A hi hj h2.len
 refine (QfO s.a s.n s.c _ s'.a s'.n s'.c _ M.r M.s a2 M.D c2 xs w hs.reads hs.cap hs'.reads hs'.cap h2 (Qae (by omega) (by omega)) (Qae (by omega) (by omega)) (by omega) (by omega)).mono ?_
 rintro e w' ⟨a,m,c,rfl,r,hb⟩
 have em:QjT (M.a.f i j) (M.a.f i (j+1)) M.r xs=0:=if_pos ok
 have lm:m=M.D:=by
  rw[←r.len]
  unfold QdF
  rw[if_pos ok,List.length_map,List.length_range,h2.len]
 subst lm
 exact⟨⟨a,c,by rw[em],r⟩,hb⟩
theorem Qeb {M:Md}(F:Qaq M)(p:Int)(hp:0≤p∧p≤1000)(w:World)(a:Option Addr)(c:Nat)(xs:List Int)(h:Reads .i64 w a M.D xs)(hc:M.D≤c) :
  Calls Tryz.prog 95 #[.slice a M.D c,I4 M.h,I4 p] w fun e w'=>(∃ a c,e=.returned (.tuple #[.slice a M.D c,I4 0])∧Reads .i64 w' a M.D (headsL xs p (M.D/M.H) M.H)∧M.D≤c)∧Bw w w':=by
 have d0:=F.d0
 have d1:=F.d1
 have h0:=F.h0
 obtain⟨x,rfl⟩:=h.some_ (by omega)
 rw[F.eH]
 exact Qmu x M.D c M.H xs p w h hc (by omega) (by omega) ⟨F.dh,F.ev⟩ hp (by omega)
theorem Ql7 {M:Md}(F:Qaq M)(p:Int)(hp:0≤p∧p≤1000)(w:World)(a:Option Addr)(c:Nat)(xs:List Int)(h:Reads .i64 w a M.D xs)(hc:M.D≤c) :
  Calls Tryz.prog 67 #[.slice a M.D c,I4 M.h,I4 p] w fun e w'=>(∃ a c,e=.returned (.tuple #[.slice a M.D c,I4 0])∧Reads .i64 w' a M.D (headsL xs p (M.D/M.H) M.H)∧M.D≤c)∧Bw w w':=by
 have d0:=F.d0
 have d1:=F.d1
 have h0:=F.h0
 obtain⟨x,rfl⟩:=h.some_ (by omega)
 rw[F.eH]
 exact QhZ x M.D c M.H xs p w h hc (by omega) (by omega) ⟨F.dh,F.ev⟩ hp (by omega)
theorem Qn6 {M:Md}(F:Qaq M)(n:Nat)(hn:n≤100)(w:World)(a:Option Addr)(c:Nat)(q:List Int)(h:Reads .i64 w a M.D q)(hc:M.D≤c)(a1:Option Addr)(c1:Nat)(A:Nat→Option Addr)(C:Nat→Nat)(K:Nat→List Int)(h1:Grid w a1 (n+1) A C K)(hC:∀ r,r<n+1→(K r).length≤C r)(a2:Option Addr)(c2:Nat)(A':Nat→Option Addr)(C':Nat→Nat)(V:Nat→List Int)(h2:Grid w a2 (n+1) A' C' V)(hC':∀ r,r<n+1→(V r).length≤C' r)(hr:∀ r,r<n+1→(K r).length=M.D∧(V r).length=M.D) :
  Calls Tryz.prog 62 #[.slice a M.D c,.slice a1 (n+1) c1,.slice a2 (n+1) c2,I4 M.h] w fun e w'=>(∃ a c,e=.returned (.tuple #[.slice a M.D c,I4 0])∧Reads .i64 w' a M.D (allL q K V (M.D/M.H) (n+1) M.H)∧M.D≤c∧∀ x,a=some x→w.heap.size≤x.block)∧Bw w w':=by
 have d0:=F.d0
 have d1:=F.d1
 have h0:=F.h0
 obtain⟨x,rfl⟩:=h.some_ (by omega)
 rw[F.eH]
 exact QnC x M.D c M.H q a1 (n+1) c1 A C K a2 c2 A' C' V w h hc h1 hC h2 hC' (by omega) (by omega) (by omega) F.dh hr (by omega) (by omega)
theorem Qn0 {M:Md}(F:Qaq M)(n:Nat)(hn:n≤100)(w:World)(a:Option Addr)(c:Nat)(q:List Int)(h:Reads .i64 w a M.D q)(hc:M.D≤c)(a1:Option Addr)(c1:Nat)(A:Nat→Option Addr)(C:Nat→Nat)(K:Nat→List Int)(h1:Grid w a1 (n+1) A C K)(hC:∀ r,r<n+1→(K r).length≤C r)(a2:Option Addr)(c2:Nat)(A':Nat→Option Addr)(C':Nat→Nat)(V:Nat→List Int)(h2:Grid w a2 (n+1) A' C' V)(hC':∀ r,r<n+1→(V r).length≤C' r)(hr:∀ r,r<n+1→(K r).length=M.D∧(V r).length=M.D) :
  Calls Tryz.prog 69 #[.slice a M.D c,.slice a1 (n+1) c1,.slice a2 (n+1) c2,I4 M.h] w fun e w'=>(∃ a c,e=.returned (.tuple #[.slice a M.D c,I4 0])∧Reads .i64 w' a M.D (allL q K V (M.D/M.H) (n+1) M.H)∧M.D≤c)∧Bw w w':=by
 have d0:=F.d0
 have d1:=F.d1
 have h0:=F.h0
 obtain⟨x,rfl⟩:=h.some_ (by omega)
 rw[F.eH]
 exact Qjn x M.D c M.H q a1 (n+1) c1 A C K a2 c2 A' C' V w h hc h1 hC h2 hC' (by omega) (by omega) (by omega) F.dh hr (by omega) (by omega)
theorem Qn5 {M:Md}(F:Qaq M){i:Nat}(hi:i<M.m.ln)(s su sd:SL)(Ru Rd:Nat→SL)(w:World)(hs:IsS w s (M.m.f i 6))(hu:IsG w su (M.m.un i) Ru (M.m.u i))(hd:IsG w sd (M.m.dn i) Rd (M.m.d i))(a:Option Addr)(c:Nat)(xs:List Int)(h:Reads .i64 w a M.D xs) :
  Calls Tryz.prog 100 #[.slice s.a s.n s.c,.slice su.a su.n su.c,.slice sd.a sd.n sd.c,I4 M.u,I4 M.t,.slice a M.D c] w fun e w'=>(∃ a c,e=.returned (.tuple #[.slice a M.D c,I4 0])∧Reads .i64 w' a M.D (mixL (M.m.f i 6) (M.m.un i) (M.m.u i) (M.m.d i) M.t xs))∧Bw w w':=by
 have d0:=F.d0
 have d1:=F.d1
 have u0:=F.u0
 have u1:=F.u1
 have hx:netsN M.x=(max M.x 1).toNat:=rfl
 have xt:=F.xt
 have eu:=F.un i hi
 have ed:=F.dn i hi
 have n6:s.n≤64:=by
  have:=F.f6 i hi
  rw[hs.reads.len] at this
  obtain⟨X,hX⟩:∃ X:Nat,M.x=X:=⟨M.x.toNat,by omega⟩
  rw[hX,←Int.natCast_mul] at this
  have p:X*M.D≤4*8:=Nat.mul_le_mul (by omega) d1
  omega
 have big:∀ {n:Nat},(n:Int)=M.u*M.D→n*8≤140737488355328:=fun {n} e=>by
  obtain⟨X,hX⟩:∃ X:Nat,M.u=X:=⟨M.u.toNat,by omega⟩
  rw[hX,←Int.natCast_mul] at e
  have p:X*M.D≤8*8:=Nat.mul_le_mul (by omega) d1
  omega
 have g1:=QfU hu (by omega) (fun j hj=>big (F.u i hi j (by omega)))
 have g2:=QfU hd (by omega) (fun j hj=>big (F.d i hi j (by omega)))
 have wu:=Qae (show -1000≤M.u by omega) (by omega)
 have wt:=Qae (show -1000≤M.t by omega) (by omega)
 have lu:=hu.len
 have ld:=hd.len
 have hE:=QiQ F hi h.len
 rw[lu,ld]
 exact QnF s.a s.n s.c _ su.a (M.m.un i) su.c _ _ (M.m.u i) sd.a (M.m.dn i) sd.c _ _ (M.m.d i) M.u M.t a M.D c xs w hs.reads hs.cap g1 g2 h wu wt (by omega) (by omega) (by omega) hE
theorem QnZ {M:Md}(F:Qaq M){i:Nat}(hi:i<M.m.ln)(s su sd:SL)(Ru Rd:Nat→SL)(w:World)(hs:IsS w s (M.m.f i 6))(hu:IsG w su (M.m.un i) Ru (M.m.u i))(hd:IsG w sd (M.m.dn i) Rd (M.m.d i))(a:Option Addr)(c:Nat)(xs:List Int)(h:Reads .i64 w a M.D xs) :
  Calls Tryz.prog 71 #[.slice s.a s.n s.c,.slice su.a su.n su.c,.slice sd.a sd.n sd.c,I4 M.u,I4 M.t,.slice a M.D c] w fun e w'=>(∃ a c,e=.returned (.tuple #[.slice a M.D c,I4 0])∧Reads .i64 w' a M.D (mixL (M.m.f i 6) (M.m.un i) (M.m.u i) (M.m.d i) M.t xs))∧Bw w w':=by
 have d0:=F.d0
 have d1:=F.d1
 have u0:=F.u0
 have u1:=F.u1
 have hx:netsN M.x=(max M.x 1).toNat:=rfl
 have xt:=F.xt
 have eu:=F.un i hi
 have ed:=F.dn i hi
 have n6:s.n≤64:=by
  have:=F.f6 i hi
  rw[hs.reads.len] at this
  obtain⟨X,hX⟩:∃ X:Nat,M.x=X:=⟨M.x.toNat,by omega⟩
  rw[hX,←Int.natCast_mul] at this
  have p:X*M.D≤4*8:=Nat.mul_le_mul (by omega) d1
  omega
 have big:∀ {n:Nat},(n:Int)=M.u*M.D→n*8≤140737488355328:=fun {n} e=>by
  obtain⟨X,hX⟩:∃ X:Nat,M.u=X:=⟨M.u.toNat,by omega⟩
  rw[hX,←Int.natCast_mul] at e
  have p:X*M.D≤8*8:=Nat.mul_le_mul (by omega) d1
  omega
 have g1:=QfU hu (by omega) (fun j hj=>big (F.u i hi j (by omega)))
 have g2:=QfU hd (by omega) (fun j hj=>big (F.d i hi j (by omega)))
 have wu:=Qae (show -1000≤M.u by omega) (by omega)
 have wt:=Qae (show -1000≤M.t by omega) (by omega)
 have lu:=hu.len
 have ld:=hd.len
 have hE:=QiQ F hi h.len
 rw[lu,ld]
 unfold mixE at hE
 rw[if_neg (by omega)] at hE
 unfold mixL
 by_cases n1:M.m.un i=1
 ·rw[if_pos n1] at hE ⊢
  have on:oneB (M.m.u i 0) (M.m.d i 0) M.u xs=true:=by
   cases ho:oneB (M.m.u i 0) (M.m.d i 0) M.u xs with
   | true=>rfl
   | false=>rw[ho] at hE;exact absurd hE (by decide)
  refine (Qjk s.a s.n s.c _ su.a (M.m.un i) su.c _ _ (M.m.u i) sd.a (M.m.dn i) sd.c _ _ (M.m.d i) M.u M.t a M.D c xs w hs.reads hs.cap g1 g2 h wu wt (by omega) (by omega) (by omega) n1 (by omega)).mono ?_
  rintro e w' ⟨⟨b,j,cc,rfl,r⟩,hb⟩
  rw[if_pos on] at r ⊢
  have lj:j=M.D:=by rw[←r.len,Qb5 on,h.len]
  subst lj
  exact⟨⟨b,cc,rfl,r⟩,hb⟩
 ·rw[if_neg n1] at hE ⊢
  cases hf:Qbh (M.m.f i 6) (M.m.un i) M.t xs with
  | false =>
   rw[if_pos hf] at hE
   exact absurd hE (Qgt hf)
  | true =>
   rw[if_neg (by rw[hf];decide)] at hE
   cases hr:QhR (M.m.f i 6) (M.m.u i) (M.m.d i) M.u M.t.toNat xs with
   | false=>rw[hr] at hE;exact absurd hE (by decide)
   | true=>exact Qjj s.a s.n s.c _ su.a (M.m.un i) su.c _ _ (M.m.u i) sd.a (M.m.dn i) sd.c _ _ (M.m.d i) M.u M.t a M.D c xs w hs.reads hs.cap g1 g2 h wu wt (by omega) (by omega) (by omega) (by omega) (by omega) hf hr
theorem Qi0 {WB W W2:World}(hp:Bw WB W){v v2:Value}{n d c:Nat}{A:Nat→Option Addr}{C:Nat→Nat}{R:Nat→List Int}(og:Qab WB.heap.size W v n A C R)(hlen:(R n).length=d)(hd:0<d){p:Option Addr}(rt:Reads .i64 WB p d (R n))
  (ho:W2.ownsRow WB.heap.size 34 1 v2 (n+1) (Qdb A C R n++[.slice p d c])) (hg:(W.alloc (.cells #[.slice p d c] 34)).grownBy W2 v.ownBlock) (hs:Qe6 (W.alloc (.cells #[.slice p d c] 34)) v v2) :
  ∃ u k,v2=.slice u (n+1) k∧Grid W2 u (n+1) (fun r=>if r=n then p else A r) (fun r=>if r=n then c else C r) R:=by
 have bn:=bNw (Below.refl W.heap.size W) (.cells #[.slice p d c] 34)
 refine ((og.below bn).app (p:=p) (c:=c) (V:=.slice p d c) (by rw[hlen]) ?_ ?_ ho hg hs).grid
 ·rw[hlen];exact (rt.below hp).below bn
 ·intro _ x hx g hg' e
  have c0:=rt.cell x hx 0 hd
  have lt:x.block<WB.heap.size:=by
   have:=World.block_lt_of_cell? WB _ c0
   simpa [Addr.add] using this
  have:=(og.own.lt g hg').1
  omega
theorem Qk0 {k:IntKind}{w:World}{a:Option Addr}{n c:Nat}{zs:List Int}(h:Reads k w a n zs)(hn:0<n):a=none→c=0:=fun e=>by
 obtain⟨x,hx⟩:=h.some_ hn
 rw[e] at hx
 cases hx
theorem Qik (zs:List Int)(j:Nat)(hj:j<zs.length):(zs.map (Value.int .i64))[j]? = some (I4 (zs.getD j 0)):=by
 simp[hj]
theorem QaC (a:Option Addr)(n c:Nat):∀ u∈[Value.slice a n c],u.oneCell'=true:=by
 intro u hu
 simp at hu
 subst hu
 rfl
theorem Qbs (P:Nat→List Int)(n f d:Nat)(last:List Int):Qa1 P n f d last n=last:=by unfold Qa1;rw[if_neg (by omega)]
theorem QbK (P:Nat→List Int)(n f d:Nat)(last:List Int)(hP:∀ r,r<n→f+d≤(P r).length)(hl:last.length=d){r:Nat}(hr:r<n+1):(Qa1 P n f d last r).length=d:=by
 unfold Qa1
 by_cases h:r<n
 ·rw[if_pos h]
  have:=hP r h
  simp
  omega
 ·rw[if_neg h,hl]
theorem QkP (M:Md)(hr0:M.r=0)(i j:Nat)(La s s':SL)(w:World)(ya:Option Addr)(yc:Nat)(y:List Int)(ha:Option Addr)(hc:Nat)(hh:List Int)(hy:Reads .i64 w ya M.D y)(ly:M.D≤yc) :
  Calls Tryz.prog 66 #[.slice ya M.D yc,s.w,s'.w,M.ad La,.slice ha M.D hc] w fun e w'=>(∃ a c,e=.returned (.slice a M.D c)∧Reads .i64 w' a M.D (Qbi M i j y hh)∧M.D≤c)∧Bw w w':=by
 have hb:=bNw (bS w) (.cells (M.rc La) 30)
 have eg:Qbi M i j y hh=y:=by unfold Qbi;rw[if_pos hr0]
 have z:(M.r==0)=true:=by simp[hr0]
 have hy2:=hy.below hb
 rw[eg]
 clear eg hr0
 go_enter Tryz.func66,Tryz.ntmps66
 go_wp2
 go_ret
 exact⟨⟨_,_,rfl,hy2,ly⟩,hb⟩
theorem Qjf (M:Md)(F:Qaq M)(hr0:M.r≠0)(R:Nat)(A:QcX M R)(i:Nat)(hi:i<M.m.ln)(j:Nat)(hj:j<3)(La s s':SL)(w:World)(hs:IsS w s (M.a.f i j))(hs':IsS w s' (M.a.f i (j+1)))(ya:Option Addr)(yc:Nat)(y:List Int)(ha:Option Addr)(hc:Nat)(hh:List Int)(hy:Reads .i64 w ya M.D y)(hr:Reads .i64 w ha M.D hh) :
  Calls Tryz.prog 66 #[.slice ya M.D yc,s.w,s'.w,M.ad La,.slice ha M.D hc] w fun e w'=>(∃ a c,e=.returned (.slice a M.D c)∧Reads .i64 w' a M.D (Qbi M i j y hh)∧M.D≤c)∧Bw w w':=by
 have hb:=bNw (bS w) (.cells (M.rc La) 30)
 have eg:Qbi M i j y hh=Qc8 y (QdF (M.a.f i j) (M.a.f i (j+1)) M.r M.s hh):=by unfold Qbi;rw[if_neg hr0]
 have z:(M.r==0)=false:=by simp[hr0]
 have hy2:=hy.below hb
 have kA:=Ql8 F A hi j hj s s' _ (hs.below hb) (hs'.below hb) ha hc hh (hr.below hb)
 have kD:=fun (W:World) a0 c0 xs a1 c1 ys=>QmO F W a0 c0 xs a1 c1 ys
 rw[eg]
 clear eg hr0
 go_enter Tryz.func66,Tryz.ntmps66
 go_wp2_with (first
  | (go_at_call 105;refine kA.mono ?_;rintro e W1 ⟨⟨a1,c1,rfl,r1⟩,h1⟩;clear kA;replace hb:=bTn hb h1;replace hy2:=hy2.below h1;clear h1)
  | (go_at_call 70;refine (kD _ _ _ _ _ _ _ hy2 r1).mono ?_;rintro e W2 ⟨⟨a2,c2,rfl,r2,l2,-⟩,h2⟩;clear kD;replace hb:=bTn hb h2;clear h2))
 go_ret
 exact⟨⟨_,_,rfl,r2,l2⟩,hb⟩
theorem QeE (M:Md)(F:Qaq M)(hok:M.r≠0→∃ R,QcX M R)(i:Nat)(hi:i<M.m.ln)(j:Nat)(hj:j<3)(La s s':SL)(w:World)(hs:M.r≠0→IsS w s (M.a.f i j)∧IsS w s' (M.a.f i (j+1)))(ya:Option Addr)(yc:Nat)(y:List Int)(ha:Option Addr)(hc:Nat)(hh:List Int)(hy:Reads .i64 w ya M.D y)(ly:M.D≤yc)(hr:Reads .i64 w ha M.D hh) :
  Calls Tryz.prog 66 #[.slice ya M.D yc,s.w,s'.w,M.ad La,.slice ha M.D hc] w fun e w'=>(∃ a c,e=.returned (.slice a M.D c)∧Reads .i64 w' a M.D (Qbi M i j y hh)∧M.D≤c)∧Bw w w':=by
 by_cases hr0:M.r=0
 ·exact QkP M hr0 i j La s s' w ya yc y ha hc hh hy ly
 ·obtain⟨R,A⟩:=hok hr0
  exact Qjf M F hr0 R A i hi j hj La s s' w (hs hr0).1 (hs hr0).2 ya yc y ha hc hh hy hr
def saD (i:Nat):Option Nat:=match i with|0=>some 89|1=>some 90|2=>some 91|3=>some 92|4=>some 93|5=>some 94|6=>some 95|7=>some 96|8=>some 97|9=>some 98|10=>some 99|11=>some 100|12=>some 101|13=>some 102|14=>some 103|15=>some 22|_=>none
theorem Qm1:∀ i,i<16→∀ j,j<16→saD i=saD j→saD i≠none→i=j:=by decide
theorem QnT:∀ i,i<16→∀ d,saD i=some d→d<123:=by
 intro i hi d h
 have:∀ i,i<16→(saD i).all (fun d=>decide (d<123))=true:=by decide
 have:=this i hi
 rw[h] at this
 simpa using this
def saF (cb n b1 b2 d0 cq ck cv:Nat)(qa ka va:Option Addr)(hh:Int)(A1 A2:Nat→Option Addr)(C1:Nat→Nat)(K V:Nat→List Int)(O:List Int)(l:Nat→Bool)(i:Nat)(q:Value)(w:World):Prop:=match i with
 | 0=>q=.slice qa d0 cq
 | 1=>q=.slice (some ⟨b1,0,none⟩) n (n+1)
 | 2=>q=.slice ka d0 ck
 | 3=>∃ g,q=.slice (some ⟨g,0,none⟩) 1 1∧g≠b1∧g≠b2∧(l 4=false→Blk 34 w g #[.slice ka d0 ck])
 | 4=>∃ u k,q=.slice u (n+1) k∧(∀ h,(Value.slice u (n+1) k).ownBlock=some h→h≠b2)∧Qab b1 w (.slice u (n+1) k) (n+1) (fun r=>if r=n then ka else A1 r) (fun r=>if r=n then ck else C1 r) K
 | 5=>q=.slice (some ⟨b2,0,none⟩) n (n+1)
 | 6=>q=.slice va d0 cv
 | 7=>∃ g,q=.slice (some ⟨g,0,none⟩) 1 1∧g≠b1∧g≠b2∧(l 8=false→Blk 34 w g #[.slice va d0 cv])
 | 8=>∃ u k,q=.slice u (n+1) k∧(∀ h,(Value.slice u (n+1) k).ownBlock=some h→h≠b1)∧Qab b1 w (.slice u (n+1) k) (n+1) (fun r=>if r=n then va else A2 r) (fun r=>if r=n then cv else C1 r) V
 | 9=>q=.pointer (some ⟨cb,1,none⟩)
 | 10=>q=I4 hh
 | 11=>∃ b bc,q=.tuple #[.slice b d0 bc,I4 0]∧Reads .i64 w b d0 O∧d0≤bc∧∀ x,b=some x→b1≤x.block
 | 12=>∃ b bc,q=.slice b d0 bc∧Reads .i64 w b d0 O∧d0≤bc∧∀ x,b=some x→b1≤x.block
 | 13=>q=I4 0
 | 14=>∃ b bc,q=.slice b d0 bc∧Reads .i64 w b d0 O∧d0≤bc∧∀ x,b=some x→b1≤x.block
 | 15=>∃ b bc,q=.slice b d0 bc∧Reads .i64 w b d0 O∧d0≤bc∧∀ x,b=some x→b1≤x.block
 | _=>True
def saS (b1 b2 n:Nat)(A1 A2:Nat→Option Addr)(C1:Nat→Nat)(K V:Nat→List Int)(w00:World)(l:Nat→Bool)(w:World):Prop:=Below b1 w00 w∧b1<w.heap.size∧b2<w.heap.size∧(l 4=false→Qab b1 w (.slice (some ⟨b1,0,none⟩) n (n+1)) n A1 C1 K)∧(l 8=false→Qab b1 w (.slice (some ⟨b2,0,none⟩) n (n+1)) n A2 C1 V)
theorem Qky {cb n b1 b2 d0 cq ck cv:Nat}{qa ka va:Option Addr}{hh:Int}{A1 A2:Nat→Option Addr}{C1:Nat→Nat}{K V:Nat→List Int}{O:List Int}{l l':Nat→Bool}{i:Nat}{q:Value}{w w':World}(h:saF cb n b1 b2 d0 cq ck cv qa ka va hh A1 A2 C1 K V O l i q w)(hb:Bw w w')(m4:l' 4=l 4)(m8:l' 8=l 8):saF cb n b1 b2 d0 cq ck cv qa ka va hh A1 A2 C1 K V O l' i q w':=by
 unfold saF at h ⊢
 split
 ·exact h
 ·exact h
 ·exact h
 ·obtain⟨g,h1,h2,h3,h4⟩:=h;exact⟨g,h1,h2,h3,fun e=>(h4 (by rw[←m4];exact e)).kept hb⟩
 ·obtain⟨u,k,h1,h2,h3⟩:=h;exact⟨u,k,h1,h2,h3.below hb⟩
 ·exact h
 ·exact h
 ·obtain⟨g,h1,h2,h3,h4⟩:=h;exact⟨g,h1,h2,h3,fun e=>(h4 (by rw[←m8];exact e)).kept hb⟩
 ·obtain⟨u,k,h1,h2,h3⟩:=h;exact⟨u,k,h1,h2,h3.below hb⟩
 ·exact h
 ·exact h
 ·obtain⟨b,bc,h1,h2,h3⟩:=h;exact⟨b,bc,h1,h2.below hb,h3⟩
 ·obtain⟨b,bc,h1,h2,h3⟩:=h;exact⟨b,bc,h1,h2.below hb,h3⟩
 ·exact h
 ·obtain⟨b,bc,h1,h2,h3⟩:=h;exact⟨b,bc,h1,h2.below hb,h3⟩
 ·obtain⟨b,bc,h1,h2,h3⟩:=h;exact⟨b,bc,h1,h2.below hb,h3⟩
 ·trivial
theorem Qab.grown {B:Nat}{w w':World}{v:Value}{k h:Nat}{A:Nat→Option Addr}{C:Nat→Nat}{R:Nat→List Int}(o:Qab B w v k A C R)(hg:w.grownBy w' (some h))(hv:∀ g,v.ownBlock=some g→g≠h)(hr:∀ r,r<k→0<(R r).length→∀ x,A r=some x→x.block≠h):Qab B w' v k A C R:=by
 refine⟨o.own.kept hg ?_,fun r hr'=>(o.row r hr').grown hg (fun h0 x hx g hg'=>by obtain rfl:=Option.some.inj hg';exact hr r hr' h0 x hx),o.apart⟩
 cases e:v.ownBlock with
 | none=>exact .inl rfl
 | some g=>exact .inr (fun e'=>hv g e (Option.some.inj e'))
theorem Blk.grown {t:TypeId}{w w':World}{b h:Nat}{cs:Array Value}(q:Blk t w b cs)(hg:w.grownBy w' (some h))(hn:b≠h):Blk t w' b cs:=(hg.block b q.lt (fun e=>hn (Option.some.inj e))).trans q
theorem Qez (p:Option Addr)(n c:Nat)(w:World):(Instr.buildSlice 31 1 #[(0,.slice p n c)]).run Tryz.prog w=.ok (.slice (some ⟨w.heap.size,0,none⟩) 1 1) (w.alloc (.cells #[.slice p n c] 34)):=by go_simp
theorem Qm7 {w:World}{g:Nat}{V:Value}{t:TypeId}(q:Blk t w g #[V]):∀ j u,[V][j]? = some u→w.cell? ((⟨g,0,none⟩:Addr).add j)=some u:=by
 intro j u hj
 match j,hj with
 | 0,hj=>simp at hj;subst hj;simpa [Addr.add] using q.cell 0 (v:=V) rfl
theorem QiZ {B b g n d c:Nat}{w:World}{A:Nat→Option Addr}{C:Nat→Nat}{R:Nat→List Int}{p:Option Addr}(ty:TypeId)(og:Qab B w (.slice (some ⟨b,0,none⟩) n (n+1)) n A C R)(hB:B≤w.heap.size)(hn:n≤1000)(hlen:(R n).length=d)(rt:Reads .i64 w p d (R n))(hlow:∀ x,p=some x→x.block≠b)(q:Blk 34 w g #[.slice p d c]) :
  ∃ u k w',(Builtin.append_ #[31,31] ty #[.slice (some ⟨b,0,none⟩) n (n+1),.slice (some ⟨g,0,none⟩) 1 1]).run Tryz.prog w=.ok (.slice u (n+1) k) w'∧Qab B w' (.slice u (n+1) k) (n+1) (fun r=>if r=n then p else A r) (fun r=>if r=n then c else C r) R∧w.grownBy w' (some b)∧Below B w w'∧(∀ h,(Value.slice u (n+1) k).ownBlock=some h→h=b∨w.heap.size≤h):=by
 obtain⟨j0,hj,hy0,hy1,hy2⟩:=info_parts Qcl
 obtain⟨v',w',hr,ho,hg,hs⟩:=Qcc (P:=Tryz.prog) w B 31 ty 34 j0 (.slice none 0 0) 24 Tryz.underlying31 hj hy0 hy1 hy2 rfl _ n _ og.own ⟨g,0,none⟩ 1 (.slice p d c) (Qm7 q) (QaC _ _ _) (by unfold maxLen;omega) (by omega) hB
 have oa:=og.app (p:=p) (c:=c) (V:=.slice p d c) (by rw[hlen]) (by rw[hlen];exact rt) (fun _ x hx g' hg' e=>hlow x hx (e.trans (Option.some.inj hg').symm)) ho hg hs
 obtain⟨u,k,rfl,_⟩:=oa.grid
 refine⟨u,k,w',hr,oa,hg,(Below.refl B w).grown hg hB (fun g' h'=>(og.own.lt g' h').1),fun h hh=>?_⟩
 rcases hs with e|e
 ·exact .inl (Option.some.inj ((e ▸ hh:(Value.slice (some (⟨b,0,none⟩:Addr)) n (n+1)).ownBlock=some h))).symm
 ·exact .inr (e h hh)
theorem Qkx {id:Nat}{ops:Array Oper}{Q:Exit→Act→World→Prop}{a0:Act}{w0:World}(cb n b1 b2 d0 cq ck cv:Nat)(qa ka va:Option Addr)(hh:Int)(A1 A2:Nat→Option Addr)(C1:Nat→Nat)(K V:Nat→List Int)(O:List Int)(w00:World)(hlow:lowB ops=true)(hsz:ops.size=16)
  (oo:OpS ops 0 89 (.move (.tmp 16)) []∧OpS ops 1 90 (.move (.tmp 20)) []∧OpS ops 2 91 (.move (.tmp 17)) []∧OpS ops 3 92 (.buildSlice 31 1 #[(0,.tmp 91)]) [2]∧OpS ops 4 93 (.call { callee:=.builtin .append,args:=#[.tmp 90,.tmp 92],argTypes:=#[31,31] }) [1,3]∧OpS ops 5 94 (.move (.tmp 21)) []∧OpS ops 6 95 (.move (.tmp 18)) []∧OpS ops 7 96 (.buildSlice 31 1 #[(0,.tmp 95)]) [6]∧OpS ops 8 97 (.call { callee:=.builtin .append,args:=#[.tmp 94,.tmp 96],argTypes:=#[31,31] }) [5,7]∧OpS ops 9 98 (.fieldAddr 23 (.tmp 12) 1) []∧OpS ops 10 99 (.load 3 (.tmp 98)) [9]∧OpS ops 11 100 (.call { callee:=.value (.func 62),args:=#[.tmp 89,.tmp 93,.tmp 97,.tmp 99],argTypes:=#[34,31,31,3] }) [0,4,8,10]∧OpS ops 12 101 (.extract (.tmp 100) 0) [11]∧OpS ops 13 102 (.extract (.tmp 100) 1) [11]∧OpS ops 14 103 (.call { callee:=.value (.func 48),args:=#[.tmp 101,.tmp 102],argTypes:=#[34,35] }) [12,13]∧OpS ops 15 22 (.assign (.tmp 103)) [14])
  (u16:a0.tmps.getD 16 undef=.slice qa d0 cq) (u20:a0.tmps.getD 20 undef=.slice (some ⟨b1,0,none⟩) n (n+1)) (u17:a0.tmps.getD 17 undef=.slice ka d0 ck) (u21:a0.tmps.getD 21 undef=.slice (some ⟨b2,0,none⟩) n (n+1)) (u18:a0.tmps.getD 18 undef=.slice va d0 cv) (u12:a0.tmps.getD 12 undef=Pt cb)
  (e1:w00.heap.size=b1) (hb12:b1≠b2) (hn:n≤1000) (hlk:(K n).length=d0) (hlv:(V n).length=d0) (hd:0<d0) (rk:Reads .i64 w00 ka d0 (K n)) (rv:Reads .i64 w00 va d0 (V n)) (lo1:∀ r,r<n→∀ x,A1 r=some x→x.block<b1) (lo2:∀ r,r<n→∀ x,A2 r=some x→x.block<b1)
  (hty4:∀ o,ops[4]? = some o→o.type=31) (hty8:∀ o,ops[8]? = some o→o.type=31)
  (hS:saS b1 b2 n A1 A2 C1 K V w00 (fun _=>false) w0.drew)
  (x9:∀ w,(Instr.fieldAt 23 (Pt cb) 1).run Tryz.prog w=.ok (.pointer (some ⟨cb,1,none⟩)) w) (x10:∀ w,Below b1 w00 w→(Instr.loadAt 3 (.pointer (some ⟨cb,1,none⟩))).run Tryz.prog w=.ok (I4 hh) w)
  (x11:∀ w u1 k1 u2 k2,Below b1 w00 w→Grid w u1 (n+1) (fun r=>if r=n then ka else A1 r) (fun r=>if r=n then ck else C1 r) K→Grid w u2 (n+1) (fun r=>if r=n then va else A2 r) (fun r=>if r=n then cv else C1 r) V→Calls Tryz.prog 62 #[.slice qa d0 cq,.slice u1 (n+1) k1,.slice u2 (n+1) k2,I4 hh] w fun e w'=>∃ b bc,e=.returned (.tuple #[.slice b d0 bc,I4 0])∧Reads .i64 w' b d0 O∧d0≤bc∧(∀ x,b=some x→w.heap.size≤x.block)∧Bw w w')
  (hs:123≤a0.tmps.size)
  (fin:∀ a w b bc,a.tmps.size=a0.tmps.size→a.defers=a0.defers→(∀ s,(∀ i,i<16→saD i≠some s)→a.tmps.getD s undef=a0.tmps.getD s undef)→tm a 22=.slice b d0 bc→Reads .i64 w b d0 O→d0≤bc→(∀ x,b=some x→b1≤x.block)→Below b1 w00 w→Q .normal a w):(Code.region id ops true).wp Tryz.prog Q a0 w0:=by
 obtain⟨o0,o1,o2,o3,o4,o5,o6,o7,o8,o9,o10,o11,o12,o13,o14,o15⟩:=oo
 have r62:∀ args w,(callFunc 62 args).run Tryz.prog w=.ok (.enter 62 args) w:=eNo Tryz.func62 (by kernel_rfl) rfl
 have r48:∀ args w,(callFunc 48 args).run Tryz.prog w=.ok (.enter 48 args) w:=eNo Tryz.func48 (by kernel_rfl) rfl
 have lok:∀ x,ka=some x→x.block<b1:=fun x hx=>by
  have:=World.block_lt_of_cell? w00 _ (rk.cell x hx 0 hd)
  rw[e1] at this
  simpa [Addr.add] using this
 have lov:∀ x,va=some x→x.block<b1:=fun x hx=>by
  have:=World.block_lt_of_cell? w00 _ (rv.cell x hx 0 hd)
  rw[e1] at this
  simpa [Addr.add] using this
 refine wRi (by kernel_rfl) hlow (Inv 16 saD a0 (fun l a w=>saS b1 b2 n A1 A2 C1 K V w00 l w) (saF cb n b1 b2 d0 cq ck cv qa ka va hh A1 A2 C1 K V O)) (Inv.start hS) ?_ ?_
 ·intro l i o a w ho hl hcl hdep hI
  have hi:i<16:=by rw[←hsz];exact (Array.getElem?_eq_some_iff.1 ho).1
  have ev:∀ (s:Nat),a.eval (.tmp s)=a.tmps.getD s undef:=fun _=>rfl
  have evf:∀ f,a.eval (.func f)=.func (.func f) #[] #[]:=fun _=>rfl
  have inj:∀ d,saD i=some d→∀ j d',j<16→saD j=some d'→j≠i→d'≠d:=fun d hd j d' hj hd' hne e=>hne (Qm1 j hj i hi (by rw[hd',hd,e]) (by rw[hd'];simp))
  have kp:∀ s,(∀ i,i<16→saD i≠some s)→a.tmps.getD s undef=a0.tmps.getD s undef:=hI.kept
  obtain⟨hw,hs1,hs2,hk4,hk8⟩:=hI.world
  have oth:∀ j,j≠i→(l j || j==i)=l j:=fun j hj=>by rw[show (j==i)=false by simp[hj],Bool.or_false]
  have sam:(l i || i==i)=true:=by simp
  have go:∀ {d:Nat}{v:Value}{w':World},saD i=some d→i≠4∧i≠8→Bw w w'→saF cb n b1 b2 d0 cq ck cv qa ka va hh A1 A2 C1 K V O (fun j=>l j || j==i) i v w'→Inv 16 saD a0 (fun l a w=>saS b1 b2 n A1 A2 C1 K V w00 l w) (saF cb n b1 b2 d0 cq ck cv qa ka va hh A1 A2 C1 K V O) (fun j=>l j || j==i) (a.put (some d) v) w':=by
   intro d v w' hD hne hb hF
   refine hI.put hi hD (Nat.lt_of_lt_of_le (QnT i hi d hD) hs) (inj d hD) ⟨?_,Nat.lt_of_lt_of_le hs1 hb.size,Nat.lt_of_lt_of_le hs2 hb.size,fun e=>?_,fun e=>?_⟩ hF (fun j u _ _ _ hf=>Qky hf hb (oth 4 (fun e=>hne.1 e.symm)) (oth 8 (fun e=>hne.2 e.symm)))
   ·exact hw.trans (hb.mono (Nat.le_of_lt hs1))
   ·exact (hk4 (by rw[←oth 4 (fun e=>hne.1 e.symm)];exact e)).below hb
   ·exact (hk8 (by rw[←oth 8 (fun e=>hne.2 e.symm)];exact e)).below hb
  rcases l16 (show i<16 by omega) with rfl|rfl|rfl|rfl|rfl|rfl|rfl|rfl|rfl|rfl|rfl|rfl|rfl|rfl|rfl|rfl
  ·obtain⟨o',e1',e2,e3,e4,e5⟩:=o0
   obtain rfl:=Option.some.inj (ho.symm.trans e1')
   have dp:=dPo e5 hdep
   have U:a.tmps.getD 16 undef=.slice qa d0 cq:=(kp 16 (by decide)).trans u16
   exact wVa (v:=.slice qa d0 cq) (w':=w) ho e4 (by simp[execOp,e3,ev,U]) (by rw[e2];exact go rfl (by decide) bR rfl)
  ·obtain⟨o',e1',e2,e3,e4,e5⟩:=o1
   obtain rfl:=Option.some.inj (ho.symm.trans e1')
   have dp:=dPo e5 hdep
   have U:a.tmps.getD 20 undef=.slice (some ⟨b1,0,none⟩) n (n+1):=(kp 20 (by decide)).trans u20
   exact wVa (v:=.slice (some ⟨b1,0,none⟩) n (n+1)) (w':=w) ho e4 (by simp[execOp,e3,ev,U]) (by rw[e2];exact go rfl (by decide) bR rfl)
  ·obtain⟨o',e1',e2,e3,e4,e5⟩:=o2
   obtain rfl:=Option.some.inj (ho.symm.trans e1')
   have dp:=dPo e5 hdep
   have U:a.tmps.getD 17 undef=.slice ka d0 ck:=(kp 17 (by decide)).trans u17
   exact wVa (v:=.slice ka d0 ck) (w':=w) ho e4 (by simp[execOp,e3,ev,U]) (by rw[e2];exact go rfl (by decide) bR rfl)
  ·obtain⟨o',e1',e2,e3,e4,e5⟩:=o3
   obtain rfl:=Option.some.inj (ho.symm.trans e1')
   have dp:=dPo e5 hdep
   have V2:tm a 91=_:=hI.vl dp 2 91 rfl rfl
   have n4:l 4=false:=by
    cases e:l 4 with
    | false=>rfl
    | true =>
     exfalso
     have y0:=hcl.dep' o4 e 3 (by decide)
     rw[hl] at y0
     cases y0
   refine wVa (v:=.slice (some ⟨w.heap.size,0,none⟩) 1 1) (w':=w.alloc (.cells #[.slice ka d0 ck] 34)) ho e4 (by simp[execOp,e3,ev,V2,Qez]) ?_
   rw[e2]
   exact go rfl (by decide) (bNw bR _) ⟨w.heap.size,rfl,by omega,by omega,fun _=>Blk.new 34 w _⟩
  ·obtain⟨o',e1',e2,e3,e4,e5⟩:=o4
   obtain rfl:=Option.some.inj (ho.symm.trans e1')
   have dp:=dPo e5 hdep
   have V1:tm a 90=_:=hI.vl dp 1 90 rfl rfl
   obtain⟨g,V3,g1,g2,gq⟩:=hI.vl dp 3 92 rfl rfl
   obtain⟨u,k,w',hap,oa,hg,hbb,hst⟩:=QiZ 31 (hk4 hl) (Nat.le_of_lt hs1) hn hlk (rk.below (show Below w00.heap.size w00 w from e1 ▸ hw)) (fun x hx=>Nat.ne_of_lt (lok x hx)) (gq hl)
   refine wVa (v:=.slice u (n+1) k) (w':=w') ho e4 (by simp only[execOp,e3,resolve,invoke,builtin,Sem.run_bind,Sem.run_pure,Result.andThen_ok,List.map_toArray,List.map_cons,List.map_nil,ev,V1,V3,hty4 _ ho,hap]) ?_
   rw[e2]
   have n11:l 11=false:=by
    cases e:l 11 with
    | false=>rfl
    | true =>
     exfalso
     have y0:=hcl.dep' o11 e 4 (by decide)
     rw[hl] at y0
     cases y0
   have n12:l 12=false:=by
    cases e:l 12 with
    | false=>rfl
    | true =>
     exfalso
     have y0:=hcl.dep' o12 e 11 (by decide)
     have y1:=hcl.dep' o11 y0 4 (by decide)
     rw[hl] at y1
     cases y1
   have n13:l 13=false:=by
    cases e:l 13 with
    | false=>rfl
    | true =>
     exfalso
     have y0:=hcl.dep' o13 e 11 (by decide)
     have y1:=hcl.dep' o11 y0 4 (by decide)
     rw[hl] at y1
     cases y1
   have n14:l 14=false:=by
    cases e:l 14 with
    | false=>rfl
    | true =>
     exfalso
     have y0:=hcl.dep' o14 e 12 (by decide)
     have y1:=hcl.dep' o12 y0 11 (by decide)
     have y2:=hcl.dep' o11 y1 4 (by decide)
     rw[hl] at y2
     cases y2
   have n15:l 15=false:=by
    cases e:l 15 with
    | false=>rfl
    | true =>
     exfalso
     have y0:=hcl.dep' o15 e 14 (by decide)
     have y1:=hcl.dep' o14 y0 12 (by decide)
     have y2:=hcl.dep' o12 y1 11 (by decide)
     have y3:=hcl.dep' o11 y2 4 (by decide)
     rw[hl] at y3
     cases y3
   have szl:=hg.size
   refine hI.put hi rfl (Nat.lt_of_lt_of_le (by decide) hs) (inj 93 rfl) ⟨hw.trans hbb,Nat.lt_of_lt_of_le hs1 szl,Nat.lt_of_lt_of_le hs2 szl,?_,?_⟩ ?_ (fun j uu hj hjl hne hf=>?_)
   ·intro e
    rw[show ((fun j=>l j || j==4) 4)=(l 4 || 4==4) from rfl,sam] at e
    cases e
   ·intro e
    rw[show ((fun j=>l j || j==4) 8)=(l 8 || 8==4) from rfl,oth 8 (by decide)] at e
    exact (hk8 e).grown hg (fun g hg'=>by obtain rfl:=Option.some.inj hg';exact fun e=>hb12 e.symm) (fun r hr h0 x hx=>by have:=lo2 r hr x hx;omega)
   ·exact⟨u,k,rfl,fun h hh=>by rcases hst h hh with e|e<;>omega,oa⟩
   ·rcases l16 (show j<16 by omega) with rfl|rfl|rfl|rfl|rfl|rfl|rfl|rfl|rfl|rfl|rfl|rfl|rfl|rfl|rfl|rfl
    ·exact hf
    ·exact hf
    ·exact hf
    ·obtain⟨g',h1,h2,h3,h4⟩:=hf
     refine⟨g',h1,h2,h3,fun e=>?_⟩
     rw[show ((fun j=>l j || j==4) 4)=(l 4 || 4==4) from rfl,sam] at e
     cases e
    ·exact absurd rfl hne
    ·exact hf
    ·exact hf
    ·obtain⟨g',h1,h2,h3,h4⟩:=hf
     refine⟨g',h1,h2,h3,fun e=>?_⟩
     rw[show ((fun j=>l j || j==4) 8)=(l 8 || 8==4) from rfl,oth 8 (by decide)] at e
     exact (h4 e).grown hg h2
    ·obtain⟨u',k',h1,h2,h3⟩:=hf
     refine⟨u',k',h1,h2,h3.grown hg h2 (fun r hr h0 x hx=>?_)⟩
     by_cases er:r=n
     ·simp only[er,if_true] at hx
      have:=lov x hx
      omega
     ·simp only[if_neg er] at hx
      have:=lo2 r (by omega) x hx
      omega
    ·exact hf
    ·exact hf
    ·rw[n11] at hjl
     cases hjl
    ·rw[n12] at hjl
     cases hjl
    ·rw[n13] at hjl
     cases hjl
    ·rw[n14] at hjl
     cases hjl
    ·rw[n15] at hjl
     cases hjl
  ·obtain⟨o',e1',e2,e3,e4,e5⟩:=o5
   obtain rfl:=Option.some.inj (ho.symm.trans e1')
   have dp:=dPo e5 hdep
   have U:a.tmps.getD 21 undef=.slice (some ⟨b2,0,none⟩) n (n+1):=(kp 21 (by decide)).trans u21
   exact wVa (v:=.slice (some ⟨b2,0,none⟩) n (n+1)) (w':=w) ho e4 (by simp[execOp,e3,ev,U]) (by rw[e2];exact go rfl (by decide) bR rfl)
  ·obtain⟨o',e1',e2,e3,e4,e5⟩:=o6
   obtain rfl:=Option.some.inj (ho.symm.trans e1')
   have dp:=dPo e5 hdep
   have U:a.tmps.getD 18 undef=.slice va d0 cv:=(kp 18 (by decide)).trans u18
   exact wVa (v:=.slice va d0 cv) (w':=w) ho e4 (by simp[execOp,e3,ev,U]) (by rw[e2];exact go rfl (by decide) bR rfl)
  ·obtain⟨o',e1',e2,e3,e4,e5⟩:=o7
   obtain rfl:=Option.some.inj (ho.symm.trans e1')
   have dp:=dPo e5 hdep
   have V6:tm a 95=_:=hI.vl dp 6 95 rfl rfl
   have n8:l 8=false:=by
    cases e:l 8 with
    | false=>rfl
    | true =>
     exfalso
     have y0:=hcl.dep' o8 e 7 (by decide)
     rw[hl] at y0
     cases y0
   refine wVa (v:=.slice (some ⟨w.heap.size,0,none⟩) 1 1) (w':=w.alloc (.cells #[.slice va d0 cv] 34)) ho e4 (by simp[execOp,e3,ev,V6,Qez]) ?_
   rw[e2]
   exact go rfl (by decide) (bNw bR _) ⟨w.heap.size,rfl,by omega,by omega,fun _=>Blk.new 34 w _⟩
  ·obtain⟨o',e1',e2,e3,e4,e5⟩:=o8
   obtain rfl:=Option.some.inj (ho.symm.trans e1')
   have dp:=dPo e5 hdep
   have V5:tm a 94=_:=hI.vl dp 5 94 rfl rfl
   obtain⟨g,V7,g1,g2,gq⟩:=hI.vl dp 7 96 rfl rfl
   obtain⟨u,k,w',hap,oa,hg,hbb,hst⟩:=QiZ 31 (hk8 hl) (Nat.le_of_lt hs1) hn hlv (rv.below (show Below w00.heap.size w00 w from e1 ▸ hw)) (fun x hx e=>by have:=lov x hx;have:=(hk8 hl).own.lt b2 rfl;omega) (gq hl)
   refine wVa (v:=.slice u (n+1) k) (w':=w') ho e4 (by simp only[execOp,e3,resolve,invoke,builtin,Sem.run_bind,Sem.run_pure,Result.andThen_ok,List.map_toArray,List.map_cons,List.map_nil,ev,V5,V7,hty8 _ ho,hap]) ?_
   rw[e2]
   have n11:l 11=false:=by
    cases e:l 11 with
    | false=>rfl
    | true =>
     exfalso
     have y0:=hcl.dep' o11 e 8 (by decide)
     rw[hl] at y0
     cases y0
   have n12:l 12=false:=by
    cases e:l 12 with
    | false=>rfl
    | true =>
     exfalso
     have y0:=hcl.dep' o12 e 11 (by decide)
     have y1:=hcl.dep' o11 y0 8 (by decide)
     rw[hl] at y1
     cases y1
   have n13:l 13=false:=by
    cases e:l 13 with
    | false=>rfl
    | true =>
     exfalso
     have y0:=hcl.dep' o13 e 11 (by decide)
     have y1:=hcl.dep' o11 y0 8 (by decide)
     rw[hl] at y1
     cases y1
   have n14:l 14=false:=by
    cases e:l 14 with
    | false=>rfl
    | true =>
     exfalso
     have y0:=hcl.dep' o14 e 12 (by decide)
     have y1:=hcl.dep' o12 y0 11 (by decide)
     have y2:=hcl.dep' o11 y1 8 (by decide)
     rw[hl] at y2
     cases y2
   have n15:l 15=false:=by
    cases e:l 15 with
    | false=>rfl
    | true =>
     exfalso
     have y0:=hcl.dep' o15 e 14 (by decide)
     have y1:=hcl.dep' o14 y0 12 (by decide)
     have y2:=hcl.dep' o12 y1 11 (by decide)
     have y3:=hcl.dep' o11 y2 8 (by decide)
     rw[hl] at y3
     cases y3
   have szl:=hg.size
   refine hI.put hi rfl (Nat.lt_of_lt_of_le (by decide) hs) (inj 97 rfl) ⟨hw.trans hbb,Nat.lt_of_lt_of_le hs1 szl,Nat.lt_of_lt_of_le hs2 szl,?_,?_⟩ ?_ (fun j uu hj hjl hne hf=>?_)
   ·intro e
    rw[show ((fun j=>l j || j==8) 4)=(l 4 || 4==8) from rfl,oth 4 (by decide)] at e
    exact (hk4 e).grown hg (fun g hg'=>by obtain rfl:=Option.some.inj hg';exact hb12) (fun r hr h0 x hx=>by have:=lo1 r hr x hx;have:=(hk8 hl).own.lt b2 rfl;omega)
   ·intro e
    rw[show ((fun j=>l j || j==8) 8)=(l 8 || 8==8) from rfl,sam] at e
    cases e
   ·exact⟨u,k,rfl,fun h hh=>by rcases hst h hh with e|e<;>omega,oa⟩
   ·rcases l16 (show j<16 by omega) with rfl|rfl|rfl|rfl|rfl|rfl|rfl|rfl|rfl|rfl|rfl|rfl|rfl|rfl|rfl|rfl
    ·exact hf
    ·exact hf
    ·exact hf
    ·obtain⟨g',h1,h2,h3,h4⟩:=hf
     refine⟨g',h1,h2,h3,fun e=>?_⟩
     rw[show ((fun j=>l j || j==8) 4)=(l 4 || 4==8) from rfl,oth 4 (by decide)] at e
     exact (h4 e).grown hg h3
    ·obtain⟨u',k',h1,h2,h3⟩:=hf
     refine⟨u',k',h1,h2,h3.grown hg h2 (fun r hr h0 x hx=>?_)⟩
     by_cases er:r=n
     ·simp only[er,if_true] at hx
      have:=lok x hx
      have:=(hk8 hl).own.lt b2 rfl;omega
     ·simp only[if_neg er] at hx
      have:=lo1 r (by omega) x hx
      have:=(hk8 hl).own.lt b2 rfl;omega
    ·exact hf
    ·exact hf
    ·obtain⟨g',h1,h2,h3,h4⟩:=hf
     refine⟨g',h1,h2,h3,fun e=>?_⟩
     rw[show ((fun j=>l j || j==8) 8)=(l 8 || 8==8) from rfl,sam] at e
     cases e
    ·exact absurd rfl hne
    ·exact hf
    ·exact hf
    ·rw[n11] at hjl
     cases hjl
    ·rw[n12] at hjl
     cases hjl
    ·rw[n13] at hjl
     cases hjl
    ·rw[n14] at hjl
     cases hjl
    ·rw[n15] at hjl
     cases hjl
  ·obtain⟨o',e1',e2,e3,e4,e5⟩:=o9
   obtain rfl:=Option.some.inj (ho.symm.trans e1')
   have dp:=dPo e5 hdep
   have U:a.tmps.getD 12 undef=Pt cb:=(kp 12 (by decide)).trans u12
   exact wVa (v:=.pointer (some ⟨cb,1,none⟩)) (w':=w) ho e4 (by simp[execOp,e3,ev,U,x9 w]) (by rw[e2];exact go rfl (by decide) bR rfl)
  ·obtain⟨o',e1',e2,e3,e4,e5⟩:=o10
   obtain rfl:=Option.some.inj (ho.symm.trans e1')
   have dp:=dPo e5 hdep
   have V9:tm a 98=_:=hI.vl dp 9 98 rfl rfl
   exact wVa (v:=I4 hh) (w':=w) ho e4 (by simp[execOp,e3,ev,V9,x10 w hw]) (by rw[e2];exact go rfl (by decide) bR rfl)
  ·obtain⟨o',e1',e2,e3,e4,e5⟩:=o11
   obtain rfl:=Option.some.inj (ho.symm.trans e1')
   have dp:=dPo e5 hdep
   have V0:tm a 89=_:=hI.vl dp 0 89 rfl rfl
   have V10:tm a 99=_:=hI.vl dp 10 99 rfl rfl
   obtain⟨v4,k4,V4,-,og4⟩:=hI.vl dp 4 93 rfl rfl
   obtain⟨v8,k8,V8,-,og8⟩:=hI.vl dp 8 97 rfl rfl
   obtain⟨a4,c4,ev4,G4⟩:=og4.grid
   simp only[Value.slice.injEq] at ev4
   obtain⟨rfl,-,rfl⟩:=ev4
   obtain⟨a8,c8,ev8,G8⟩:=og8.grid
   simp only[Value.slice.injEq] at ev8
   obtain⟨rfl,-,rfl⟩:=ev8
   refine wCa (f:=62) (args:=#[.slice qa d0 cq,.slice v4 (n+1) k4,.slice v8 (n+1) k8,I4 hh]) ho e4 (by simp[execOp,e3,resolve,invoke,Deferred.ofValue,r62,ev,evf,V0,V4,V8,V10]) ((x11 w _ _ _ _ hw G4 G8).mono ?_)
   rintro e W' ⟨b,bc,rfl,hr,hz,hfr,hb⟩
   refine⟨_,rfl,?_⟩
   rw[e2]
   exact go rfl (by decide) hb ⟨b,bc,rfl,hr,hz,fun x hx=>Nat.le_trans (Nat.le_of_lt hs1) (hfr x hx)⟩
  ·obtain⟨o',e1',e2,e3,e4,e5⟩:=o12
   obtain rfl:=Option.some.inj (ho.symm.trans e1')
   have dp:=dPo e5 hdep
   obtain⟨b,bc,V11,f11,z11⟩:=hI.vl dp 11 100 rfl rfl
   exact wVa (v:=.slice b d0 bc) (w':=w) ho e4 (by simp[execOp,e3,ev,V11,Instr.extract]) (by rw[e2];exact go rfl (by decide) bR ⟨b,bc,rfl,f11,z11⟩)
  ·obtain⟨o',e1',e2,e3,e4,e5⟩:=o13
   obtain rfl:=Option.some.inj (ho.symm.trans e1')
   have dp:=dPo e5 hdep
   obtain⟨b,bc,V11,f11,z11⟩:=hI.vl dp 11 100 rfl rfl
   exact wVa (v:=I4 0) (w':=w) ho e4 (by simp[execOp,e3,ev,V11,Instr.extract]) (by rw[e2];exact go rfl (by decide) bR rfl)
  ·obtain⟨o',e1',e2,e3,e4,e5⟩:=o14
   obtain rfl:=Option.some.inj (ho.symm.trans e1')
   have dp:=dPo e5 hdep
   obtain⟨b,bc,V12,f12,z12⟩:=hI.vl dp 12 101 rfl rfl
   have V13:tm a 102=_:=hI.vl dp 13 102 rfl rfl
   refine wCa (f:=48) (args:=#[.slice b d0 bc,I4 0]) ho e4 (by simp[execOp,e3,resolve,invoke,Deferred.ofValue,r48,ev,evf,V12,V13]) ((QaY _ _ _ w).mono ?_)
   rintro e W' ⟨rfl,hq⟩
   refine⟨_,rfl,?_⟩
   rw[e2]
   exact go rfl (by decide) (by rw[hq];exact Below.refl _ _) ⟨b,bc,rfl,by rw[hq];exact f12,z12⟩
  ·obtain⟨o',e1',e2,e3,e4,e5⟩:=o15
   obtain rfl:=Option.some.inj (ho.symm.trans e1')
   have dp:=dPo e5 hdep
   obtain⟨b,bc,V14,f14,z14⟩:=hI.vl dp 14 103 rfl rfl
   exact wVa (v:=.slice b d0 bc) (w':=w) ho e4 (by simp[execOp,e3,ev,V14]) (by rw[e2];exact go rfl (by decide) bR ⟨b,bc,rfl,f14,z14⟩)
 ·intro l a w hall hI
  have all:∀ j,j<16→l j=true:=fun j hj=>hall j (by rw[hsz];exact hj)
  obtain⟨b,bc,v15,f15,z15⟩:∃ b bc,a.tmps.getD 22 undef=.slice b d0 bc∧Reads .i64 w b d0 O∧d0≤bc∧(∀ x,b=some x→b1≤x.block):=hI.va all 15 22 rfl rfl
  exact fin a w b bc hI.size hI.defers hI.kept v15 f15 z15.1 z15.2 hI.world.1
section
structure TwoG (B:Nat) (w:World) (v v2:Value) (k k2:Nat) (A A2:Nat→Option Addr) (C C2:Nat→Nat) (R R2:Nat→List Int):Prop where
 g1:Qab B w v k A C R
 g2:Qab B w v2 k2 A2 C2 R2
 ap:∀ h,v.ownBlock=some h→∀ h2,v2.ownBlock=some h2→h≠h2
 d1:∀ r,r<k→0<(R r).length→∀ x,A r=some x→∀ h,v2.ownBlock=some h→x.block≠h
 d2:∀ r,r<k2→0<(R2 r).length→∀ x,A2 r=some x→∀ h,v.ownBlock=some h→x.block≠h
section
variable {B:Nat}{w:World}{v v2:Value}{k k2:Nat}{A A2:Nat→Option Addr}{C C2:Nat→Nat}{R R2:Nat→List Int}
theorem TwoG.swap (h:TwoG B w v v2 k k2 A A2 C C2 R R2):TwoG B w v2 v k2 k A2 A C2 C R2 R:=⟨h.g2,h.g1,fun a ha b hb e=>h.ap b hb a ha e.symm,h.d2,h.d1⟩
theorem TwoG.below {w':World}(h:TwoG B w v v2 k k2 A A2 C C2 R R2)(hb:Bw w w'):TwoG B w' v v2 k k2 A A2 C C2 R R2:=⟨h.g1.below hb,h.g2.below hb,h.ap,h.d1,h.d2⟩
theorem TwoG.none_ (B:Nat)(w:World)(A A2:Nat→Option Addr)(C C2:Nat→Nat)(R R2:Nat→List Int):TwoG B w (.slice none 0 0) (.slice none 0 0) 0 0 A A2 C C2 R R2 :=
 ⟨Qab.nil _ _ _ _ _,Qab.nil _ _ _ _ _,(fun h e=>by cases e),(fun r hr=>by omega),(fun r hr=>by omega)⟩
theorem Qno {w:World}{v:Value}{k:Nat}(h:Qab B w v k A C R){r:Nat}(hr:r<k)(h0:0<(R r).length){x:Addr}(hx:A r=some x):x.block<w.heap.size:=by
 have:=World.block_lt_of_cell? w _ ((h.row r hr).cell x hx 0 h0)
 simpa [Addr.add] using this
theorem TwoG.app {w':World}{v':Value}(h:TwoG B w v v2 k k2 A A2 C C2 R R2){p:Option Addr}{c d:Nat}(hlen:(R k).length=d)(rt:Reads .i64 w p d (R k))
  (f1:∀ x,p=some x→∀ g,v.ownBlock=some g→x.block≠g) (f2:∀ x,p=some x→∀ g,v2.ownBlock=some g→x.block≠g)
  (ho:w'.ownsRow B 34 1 v' (k+1) (Qdb A C R k++[.slice p d c])) (hg:w.grownBy w' v.ownBlock) (hs:Qe6 w v v') :
  TwoG B w' v' v2 (k+1) k2 (fun r=>if r=k then p else A r) A2 (fun r=>if r=k then c else C r) C2 R R2:=by
 have g1':=h.g1.app (p:=p) (c:=c) (V:=.slice p d c) (by rw[hlen]) (by rw[hlen];exact rt) (fun _=>f1) ho hg hs
 have g2':Qab B w' v2 k2 A2 C2 R2:=by
  cases e:v.ownBlock with
  | none =>
   rw[e] at hg
   exact⟨h.g2.own.kept hg (by cases e2:v2.ownBlock with|none=>exact .inl rfl|some q=>exact .inr (fun q=>by cases q)),fun r hr=>(h.g2.row r hr).grown hg (fun _ _ _ _ q=>by cases q),h.g2.apart⟩
  | some q =>
   rw[e] at hg
   exact h.g2.grown hg (fun q2 hq2=>fun e'=>h.ap q e q2 hq2 e'.symm) (fun r hr h0 x hx=>h.d2 r hr h0 x hx q e)
 refine⟨g1',g2',fun a ha b hb=>?_,fun r hr h0 x hx b hb=>?_,fun r hr h0 x hx a ha=>?_⟩
 ·rcases hs with e|e
  ·exact h.ap a (e ▸ ha) b hb
  ·have h1:=e a ha
   have h2:=(h.g2.own.lt b hb).2
   omega
 ·by_cases e:r=k
  ·simp only[e,if_true] at hx
   exact f2 x hx b hb
  ·simp only[if_neg e] at hx
   exact h.d1 r (by omega) h0 x hx b hb
 ·rcases hs with e|e
  ·exact h.d2 r hr h0 x hx a (e ▸ ha)
  ·have h1:=e a ha
   have h2:=Qno h.g2 hr h0 hx
   omega
end
theorem Grid.none_ (w:World)(a:Option Addr)(A:Nat→Option Addr)(C:Nat→Nat)(R:Nat→List Int):Grid w a 0 A C R:=⟨by omega,fun h=>by omega,fun x hx r hr=>by omega,fun r hr=>by omega⟩
theorem Grid.cut {w:World}{x:Addr}{n:Nat}{A:Nat→Option Addr}{C:Nat→Nat}{R:Nat→List Int}(h:Grid w (some x) n A C R)(s m:Nat)(hm:s+m≤n):Grid w (some (x.add s)) m (fun r=>A (s+r)) (fun r=>C (s+r)) (fun r=>R (s+r)) :=
 ⟨by have:=h.max;omega,fun _=>⟨_,rfl⟩,fun y hy r hr=>by obtain rfl:=Option.some.inj hy;rw[Addr.add_add];exact h.cell x rfl (s+r) (by omega),fun r hr=>h.row (s+r) (by omega)⟩
end
theorem Qhp (M:Md)(E L N O:SL)(Y U D:Nat→Nat→SL)(x0:Addr)(F:Qaq M)(i:Nat)(hi:i<M.m.ln)(w:World)(hM:Qad w E L N O Y U D M.m)(hx0:L.a=some x0)(ax:Option Addr)(cx:Nat)(x:List Int)(ao:Option Addr)(co:Nat)(o:List Int)(hx:Reads .i64 w ax M.D x)(ho:Reads .i64 w ao M.D o) :
  Calls Tryz.prog 63 #[.agg (M.mx E x0 L N O),I4 i,.slice ax M.D cx,.slice ao M.D co] w fun e w'=>(∃ a c,e=.returned (.slice a M.D c)∧Reads .i64 w' a M.D (wkL M i x o)∧∀ x,a=some x→w.heap.size≤x.block)∧Bw w w':=by
 have hb1:=bNw (bS w) (.cells (M.mx E x0 L N O) 27)
 have q1:=Blk.new 27 w (M.mx E x0 L N O)
 have km:=fun (W:World) (hb:Bw w W) a c xs=>QeS F hi 4 (by omega) (by omega) (Y i 4) W (((hM.lay i hi).f 4 (by omega)).below hb) a c xs
 have kr:=fun (W:World) (hb:Bw w W) a c xs=>QiS F (Y i 5) _ (F.f5 i hi) W (((hM.lay i hi).f 5 (by omega)).below hb) a c xs
 have kx:=fun (W:World) (hb:Bw w W) a c xs=>Qn5 F hi (Y i 6) (Y i 7) (Y i 8) (U i) (D i) W (((hM.lay i hi).f 6 (by omega)).below hb) ((hM.lay i hi).u.below hb) ((hM.lay i hi).d.below hb) a c xs
 have ka:=fun (W:World) a0 c0 xs a1 c1 ys=>QmP F W a0 c0 xs a1 c1 ys
 have kb:=ka
 unfold wkL w1L
 go_enter Tryz.func63,Tryz.ntmps63
 go_wp2
 refine Qj3 M E L N O Y w.heap.size i x0 U D (hM.below hb1) hx0 hi q1 (by kernel_rfl) rfl (by (repeat' apply And.intro)<;>exact⟨_,rfl,rfl,rfl,rfl,by kernel_rfl⟩) rfl rfl (Nat.le_of_ble_eq_true rfl) ?_
 intro a W2 cb lb hs hd hkp e9 e10 hb2 qc ql
 obtain⟨f,ef,ep⟩:=fPz [12,13,14,15,16,17,18,9,10] rfl hs hd hkp
 simp only[ef] at e9 e10
 simp only[List.foldl,e9,e10,Act.put,List.setIfInBounds_toArray,List.set_cons_succ,List.set_cons_zero] at ep
 clear hs hd hkp e9 e10 ef
 subst ep
 have hb:=bTn hb1 hb2
 have hx2:=hx.below hb
 have ho2:=ho.below hb
 have QC:=hdn qc
 have QL:=hdn ql
 have z0:=qc.cell 0 (v:=I4 M.d) rfl
 have y4:=ql.cell 4 (v:=(Y i 4).w) rfl
 clear qc ql hb1 hb2 q1 hx ho hM
 go_wp2_with (first
  | (go_at_call 49;refine (km _ hb _ _ _ ho2).mono ?_;rintro e W3 ⟨⟨a3,c3,rfl,r3,l3,-⟩,h3⟩;clear km;have hb3:=bTn hb h3;have x3:=hx2.below h3;have QC3:=hdn (QC.out.kept h3);have QL3:=hdn (QL.out.kept h3);clear h3 hx2 QC QL)
  | (go_at_call 48;refine (QaY _ _ _ _).mono ?_;rintro e w' ⟨rfl,hq⟩;obtain rfl:=hq.symm;clear hq)
  | (go_at_call 93;refine (ka _ _ _ _ _ _ _ x3 r3).mono ?_;rintro e W4 ⟨⟨a4,c4,rfl,r4,l4,-⟩,h4⟩;clear ka;have hb4:=bTn hb3 h4;have QC4:=hdn (QC3.out.kept h4);have QL4:=hdn (QL3.out.kept h4);have y5:=QL4.out.cell 5 (v:=(Y i 5).w) rfl;clear h4 x3 r3 QC3 QL3)
  | (go_at_call 64;refine (kr _ hb4 _ _ _ r4).mono ?_;rintro e W5 ⟨⟨a5,c5,rfl,r5,-⟩,h5⟩;clear kr;have hb5:=bTn hb4 h5;have r4':=r4.below h5;have z4:=(QC4.out.kept h5).cell 4 (v:=I4 M.u) rfl;have z6:=(QC4.out.kept h5).cell 6 (v:=I4 M.t) rfl;have y6:=(QL4.out.kept h5).cell 6 (v:=(Y i 6).w) rfl;have y7:=(QL4.out.kept h5).cell 7 (v:=(Y i 7).w) rfl;have y8:=(QL4.out.kept h5).cell 8 (v:=(Y i 8).w) rfl;clear h5 r4 QC4 QL4)
  | (go_at_call 100;refine (kx _ hb5 _ _ _ r5).mono ?_;rintro e W6 ⟨⟨a6,c6,rfl,r6⟩,h6⟩;clear kx;have hb6:=bTn hb5 h6;have r4'':=r4'.below h6;clear h6 r4' r5)
  | (go_at_call 93;refine (kb _ _ _ _ _ _ _ r4'' r6).mono ?_;rintro e W7 ⟨⟨a7,c7,rfl,r7,l7,f7⟩,h7⟩;clear kb;have F7:Hid (∀ x,a7=some x→w.heap.size≤x.block):=fun x hx=>Nat.le_trans hb6.size (f7 x hx);clear f7;have hb7:=bTn hb6 h7;clear h7 r4'' r6))
 go_ret
 exact⟨⟨_,_,rfl,r7,F7.out⟩,hb7⟩
end Go.Proofs.YthliomlmhfjhnaaGreat

/- Texts put together. -/
import Derived.Test.YthliomlmhfjhnaaGreatRows
import Derived.Test.YthliomlmhfjhnaaGreatZf24
import Derived.Test.YthliomlmhfjhnaaGreatZf16
namespace Go.Proofs.YthliomlmhfjhnaaGreat
set_option maxRecDepth 20000
set_option maxHeartbeats 16000000
open Go.ChangeShapes Go.WideShapes Go.ChangeAt Go.RowKit
set_option linter.unusedVariables false
set_option linter.unusedSimpArgs false
section
theorem nets_of {w:World}{s:SL}{k:Nat}{R:Nat→SL}{Z:Nat→List Int}(h:IsG w s k R Z)(hk:k≤100)(hb:∀ j,j<k→(Z j).length*8≤140737488355328):Nets w s.a k (fun j=>(R j).a) (fun j=>(R j).c) Z :=
 ⟨⟨by omega,h.some_,fun x hx r hr=>by rw[h.cell x hx r hr];unfold SL.v;rw[←(h.row r hr).reads.len],fun r hr=>by have:=(h.row r hr).reads;rwa [←this.len] at this⟩,
  fun r hr=>by rw[(h.row r hr).reads.len];exact (h.row r hr).cap,fun r hr=>(h.row r hr).nil,hb⟩
theorem sq_le {M:Md}(F:MdFit M):M.D*M.D≤64:=Nat.mul_le_mul F.d1 F.d1
theorem wf_small {z:Int}(h0:-1000≤z)(h1:z≤1000):(Lit.int .i64 z).wf=true:=WalkArith.wf_i64 ⟨by omega,by omega⟩
theorem md_mat {M:Md}(F:MdFit M){i:Nat}(hi:i<M.m.ln)(j:Nat)(h1:1≤j)(h4:j≤4)(s:SL)(w:World)(hs:IsS w s (M.m.f i j))(a2:Option Addr)(c2:Nat)(xs:List Int)(h2:Reads .i64 w a2 M.D xs) :
  Calls Tryz.prog 49 #[.slice s.a s.n s.c,.int .i64 M.d,.slice a2 M.D c2] w fun e w'=>(∃ a c,e=.returned (.tuple #[.slice a M.D c,.int .i64 0])∧Reads .i64 w' a M.D (matL (M.m.f i j) xs)∧M.D≤c∧∀ x,a=some x→w.heap.size≤x.block)∧Below w.heap.size w w':=by
 have d0:=F.d0
 have d1:=F.d1
 have hn:s.n=M.D*M.D:=by rw[←hs.reads.len,F.fq i hi j h1 h4]
 have hq:s.n/M.D=M.D:=by rw[hn,Nat.mul_div_cancel _ (by omega)]
 have sq:=sq_le F
 have hf:fitB s.n M.d M.D=true:=fitB_of (by omega) (by rw[hn,Int.natCast_mul,←F.eD]) (by have:=F.eD;omega)
 have k:=mat_yes s.a s.n s.c _ M.d a2 M.D c2 xs w hs.reads hs.cap h2 hf (by omega)
 rw[hq] at k
 exact k.mono fun e w' ⟨⟨cs,q1,q2,_⟩,q3⟩=>⟨⟨_,_,q1,q2,Nat.le_refl _,fun x hx=>Nat.le_of_eq (congrArg Addr.block (Option.some.inj hx))⟩,q3⟩
theorem md_rms {M:Md}(F:MdFit M)(s:SL)(zs:List Int)(hl:zs.length=M.D)(w:World)(hs:IsS w s zs)(a:Option Addr)(c:Nat)(xs:List Int)(h:Reads .i64 w a M.D xs) :
  Calls Tryz.prog 64 #[.slice a M.D c,.slice s.a s.n s.c] w fun e w'=>(∃ a c,e=.returned (.tuple #[.slice a M.D c,.int .i64 0])∧Reads .i64 w' a M.D (rmsZ xs zs M.D)∧∀ x,a=some x→w.heap.size≤x.block)∧Below w.heap.size w w':=by
 have d0:=F.d0
 have d1:=F.d1
 have r:=hs.reads
 have hn:s.n=M.D:=by rw[←r.len,hl]
 rw[hn] at r ⊢
 exact rms_same a M.D c xs s.a s.c zs w h r (by omega) (by omega)
theorem md_add {M:Md}(F:MdFit M)(w:World)(a0:Option Addr)(c0:Nat)(xs:List Int)(a1:Option Addr)(c1:Nat)(ys:List Int)(h0:Reads .i64 w a0 M.D xs)(h1:Reads .i64 w a1 M.D ys) :
  Calls Tryz.prog 93 #[.slice a0 M.D c0,.slice a1 M.D c1] w fun e w'=>(∃ a c,e=.returned (.tuple #[.slice a M.D c,.int .i64 0])∧Reads .i64 w' a M.D (plusL xs ys)∧M.D≤c∧∀ x,a=some x→w.heap.size≤x.block)∧Below w.heap.size w w':=by
 have d1:=F.d1
 unfold plusL
 rw[h0.len]
 exact add4_same a0 M.D c0 xs a1 c1 ys w h0 h1 (by omega)
theorem md_apply {M:Md}(F:MdFit M){R:Nat}(A:AdFit M R){i:Nat}(hi:i<M.m.ln)(j:Nat)(hj:j<3)(s s':SL)(w:World)(hs:IsS w s (M.a.f i j))(hs':IsS w s' (M.a.f i (j+1)))(a2:Option Addr)(c2:Nat)(xs:List Int)(h2:Reads .i64 w a2 M.D xs) :
  Calls Tryz.prog 94 #[.slice s.a s.n s.c,.slice s'.a s'.n s'.c,.int .i64 M.r,.int .i64 M.s,.slice a2 M.D c2] w fun e w'=>(∃ a c,e=.returned (.tuple #[.slice a M.D c,.int .i64 0])∧Reads .i64 w' a M.D (applR (M.a.f i j) (M.a.f i (j+1)) M.r M.s xs))∧Below w.heap.size w w':=by
 have d1:=F.d1
 have r1:=A.r1
 have s0:=A.s0
 have s1:=A.s1
 have r0:=A.r0
 have er:=A.er
 have pr:R*M.D≤4*8:=Nat.mul_le_mul r1 d1
 have n1:s.n=R*M.D:=by rw[←hs.reads.len,A.f i hi j (by omega)]
 have n2:s'.n=R*M.D:=by rw[←hs'.reads.len,A.f i hi (j+1) (by omega)]
 have ok:=appl_ok F A hi hj h2.len
 refine (apply_call s.a s.n s.c _ s'.a s'.n s'.c _ M.r M.s a2 M.D c2 xs w hs.reads hs.cap hs'.reads hs'.cap h2 (wf_small (by omega) (by omega)) (wf_small (by omega) (by omega)) (by omega) (by omega)).mono ?_
 rintro e w' ⟨a,m,c,rfl,r,hb⟩
 have em:applE (M.a.f i j) (M.a.f i (j+1)) M.r xs=0:=if_pos ok
 have lm:m=M.D:=by
  rw[←r.len]
  unfold applR
  rw[if_pos ok,List.length_map,List.length_range,h2.len]
 subst lm
 exact⟨⟨a,c,by rw[em],r⟩,hb⟩
theorem md_heads {M:Md}(F:MdFit M)(p:Int)(hp:0≤p∧p≤1000)(w:World)(a:Option Addr)(c:Nat)(xs:List Int)(h:Reads .i64 w a M.D xs)(hc:M.D≤c) :
  Calls Tryz.prog 95 #[.slice a M.D c,.int .i64 M.h,.int .i64 p] w fun e w'=>(∃ a c,e=.returned (.tuple #[.slice a M.D c,.int .i64 0])∧Reads .i64 w' a M.D (headsL xs p (M.D/M.H) M.H)∧M.D≤c)∧Below w.heap.size w w':=by
 have d0:=F.d0
 have d1:=F.d1
 have h0:=F.h0
 obtain⟨x,rfl⟩:=h.some_ (by omega)
 rw[F.eH]
 exact heads_ok x M.D c M.H xs p w h hc (by omega) (by omega) ⟨F.dh,F.ev⟩ hp (by omega)
theorem md_all {M:Md}(F:MdFit M)(n:Nat)(hn:n≤100)(w:World)(a:Option Addr)(c:Nat)(q:List Int)(h:Reads .i64 w a M.D q)(hc:M.D≤c)(a1:Option Addr)(c1:Nat)(A:Nat→Option Addr)(C:Nat→Nat)(K:Nat→List Int)(h1:Grid w a1 (n+1) A C K)(hC:∀ r,r<n+1→(K r).length≤C r)(a2:Option Addr)(c2:Nat)(A':Nat→Option Addr)(C':Nat→Nat)(V:Nat→List Int)(h2:Grid w a2 (n+1) A' C' V)(hC':∀ r,r<n+1→(V r).length≤C' r)(hr:∀ r,r<n+1→(K r).length=M.D∧(V r).length=M.D) :
  Calls Tryz.prog 62 #[.slice a M.D c,.slice a1 (n+1) c1,.slice a2 (n+1) c2,.int .i64 M.h] w fun e w'=>(∃ a c,e=.returned (.tuple #[.slice a M.D c,.int .i64 0])∧Reads .i64 w' a M.D (allL q K V (M.D/M.H) (n+1) M.H)∧M.D≤c∧∀ x,a=some x→w.heap.size≤x.block)∧Below w.heap.size w w':=by
 have d0:=F.d0
 have d1:=F.d1
 have h0:=F.h0
 obtain⟨x,rfl⟩:=h.some_ (by omega)
 rw[F.eH]
 exact all_yes x M.D c M.H q a1 (n+1) c1 A C K a2 c2 A' C' V w h hc h1 hC h2 hC' (by omega) (by omega) (by omega) F.dh hr (by omega) (by omega)
theorem md_mix {M:Md}(F:MdFit M){i:Nat}(hi:i<M.m.ln)(s su sd:SL)(Ru Rd:Nat→SL)(w:World)(hs:IsS w s (M.m.f i 6))(hu:IsG w su (M.m.un i) Ru (M.m.u i))(hd:IsG w sd (M.m.dn i) Rd (M.m.d i))(a:Option Addr)(c:Nat)(xs:List Int)(h:Reads .i64 w a M.D xs) :
  Calls Tryz.prog 100 #[.slice s.a s.n s.c,.slice su.a su.n su.c,.slice sd.a sd.n sd.c,.int .i64 M.u,.int .i64 M.t,.slice a M.D c] w fun e w'=>(∃ a c,e=.returned (.tuple #[.slice a M.D c,.int .i64 0])∧Reads .i64 w' a M.D (mixL (M.m.f i 6) (M.m.un i) (M.m.u i) (M.m.d i) M.t xs))∧Below w.heap.size w w':=by
 have d0:=F.d0
 have d1:=F.d1
 have u0:=F.u0
 have u1:=F.u1
 have hx:netsN M.x=(max M.x 1).toNat:=rfl
 have xt:=F.xt
 have eu:=F.un i hi
 have ed:=F.dn i hi
 have n6:s.n≤64:=by
  have:=F.f6 i hi
  rw[hs.reads.len] at this
  obtain⟨X,hX⟩:∃ X:Nat,M.x=X:=⟨M.x.toNat,by omega⟩
  rw[hX,←Int.natCast_mul] at this
  have p:X*M.D≤4*8:=Nat.mul_le_mul (by omega) d1
  omega
 have big:∀ {n:Nat},(n:Int)=M.u*M.D→n*8≤140737488355328:=fun {n} e=>by
  obtain⟨X,hX⟩:∃ X:Nat,M.u=X:=⟨M.u.toNat,by omega⟩
  rw[hX,←Int.natCast_mul] at e
  have p:X*M.D≤8*8:=Nat.mul_le_mul (by omega) d1
  omega
 have g1:=nets_of hu (by omega) (fun j hj=>big (F.u i hi j (by omega)))
 have g2:=nets_of hd (by omega) (fun j hj=>big (F.d i hi j (by omega)))
 have wu:=wf_small (show -1000≤M.u by omega) (by omega)
 have wt:=wf_small (show -1000≤M.t by omega) (by omega)
 have lu:=hu.len
 have ld:=hd.len
 have hE:=mix_fits F hi h.len
 rw[lu,ld]
 exact Mix_yes s.a s.n s.c _ su.a (M.m.un i) su.c _ _ (M.m.u i) sd.a (M.m.dn i) sd.c _ _ (M.m.d i) M.u M.t a M.D c xs w hs.reads hs.cap g1 g2 h wu wt (by omega) (by omega) (by omega) hE
end
section
theorem map_get (zs:List Int)(j:Nat)(hj:j<zs.length):(zs.map (Value.int .i64))[j]? = some (.int .i64 (zs.getD j 0)):=by
 simp[hj]
theorem sliceOne17 (a:Option Addr)(n c:Nat):∀ u∈[Value.slice a n c],u.oneCell'=true:=by
 intro u hu
 simp at hu
 subst hu
 rfl
theorem partL_last (P:Nat→List Int)(n f d:Nat)(last:List Int):partL P n f d last n=last:=by unfold partL;rw[if_neg (by omega)]
theorem partL_length (P:Nat→List Int)(n f d:Nat)(last:List Int)(hP:∀ r,r<n→f+d≤(P r).length)(hl:last.length=d){r:Nat}(hr:r<n+1):(partL P n f d last r).length=d:=by
 unfold partL
 by_cases h:r<n
 ·rw[if_pos h]
  have:=hP r h
  simp
  omega
 ·rw[if_neg h,hl]
end
end Go.Proofs.YthliomlmhfjhnaaGreat

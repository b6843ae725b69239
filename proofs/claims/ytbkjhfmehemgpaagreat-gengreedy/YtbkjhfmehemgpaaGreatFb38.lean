/- Texts put together. -/
import Derived.Test.YtbkjhfmehemgpaaGreatFb35
import Derived.Test.YtbkjhfmehemgpaaGreatFb31
import Derived.Test.YtbkjhfmehemgpaaGreatFb37
import Derived.Laws.MakeOwn
namespace Go.Proofs.YtbkjhfmehemgpaaGreat
set_option maxRecDepth 20000
set_option maxHeartbeats 16000000
open Go.ChangeShapes Go.WideShapes Go.ChangeAt Go.RowKit
set_option linter.unusedVariables false
set_option linter.unusedSimpArgs false
theorem nets_of {w:World}{s:SL}{k:Nat}{R:Nat→SL}{Z:Nat→List Int}(h:IsG w s k R Z)(hk:k≤100)(hb:∀ j,j<k→(Z j).length*8≤140737488355328):Nets w s.a k (fun j=>(R j).a) (fun j=>(R j).c) Z :=
 ⟨⟨by omega,h.some_,fun x hx r hr=>by rw[h.cell x hx r hr];unfold SL.v;rw[←(h.row r hr).reads.len],fun r hr=>by have:=(h.row r hr).reads;rwa [←this.len] at this⟩,
  fun r hr=>by rw[(h.row r hr).reads.len];exact (h.row r hr).cap,fun r hr=>(h.row r hr).nil,hb⟩
theorem sq_le {M:Md}(F:MdFit M):M.D*M.D≤64:=Nat.mul_le_mul F.d1 F.d1
theorem wf_small {z:Int}(h0:-1000≤z)(h1:z≤1000):(Lit.int .i64 z).wf=true:=WalkArith.wf_i64 ⟨by omega,by omega⟩
theorem md_mat {M:Md}(F:MdFit M){i:Nat}(hi:i<M.m.ln)(j:Nat)(h1:1≤j)(h4:j≤4)(s:SL)(w:World)(hs:IsS w s (M.m.f i j))(a2:Option Addr)(c2:Nat)(xs:List Int)(h2:Reads .i64 w a2 M.D xs) :
  Calls Tryz.prog 157 #[.slice s.a s.n s.c,.int .i64 M.d,.slice a2 M.D c2] w fun e w'=>(∃ a c,e=.returned (.tuple #[.slice a M.D c,.int .i64 0])∧Reads .i64 w' a M.D (matL (M.m.f i j) xs)∧M.D≤c∧∀ x,a=some x→w.heap.size≤x.block)∧Below w.heap.size w w':=by
 have d0:=F.d0
 have d1:=F.d1
 have hn:s.n=M.D*M.D:=by rw[←hs.reads.len,F.fq i hi j h1 h4]
 have hq:s.n/M.D=M.D:=by rw[hn,Nat.mul_div_cancel _ (by omega)]
 have sq:=sq_le F
 have hf:fitB s.n M.d M.D=true:=fitB_of (by omega) (by rw[hn,Int.natCast_mul,←F.eD]) (by have:=F.eD;omega)
 have k:=mat_yes s.a s.n s.c _ M.d a2 M.D c2 xs w hs.reads hs.cap h2 hf (by omega)
 rw[hq] at k
 exact k.mono fun e w' ⟨⟨cs,q1,q2,_⟩,q3⟩=>⟨⟨_,_,q1,q2,Nat.le_refl _,fun x hx=>Nat.le_of_eq (congrArg Addr.block (Option.some.inj hx))⟩,q3⟩
theorem md_rms {M:Md}(F:MdFit M)(s:SL)(zs:List Int)(hl:zs.length=M.D)(w:World)(hs:IsS w s zs)(a:Option Addr)(c:Nat)(xs:List Int)(h:Reads .i64 w a M.D xs) :
  Calls Tryz.prog 148 #[.slice a M.D c,.slice s.a s.n s.c] w fun e w'=>(∃ a c,e=.returned (.tuple #[.slice a M.D c,.int .i64 0])∧Reads .i64 w' a M.D (rmsZ xs zs M.D)∧∀ x,a=some x→w.heap.size≤x.block)∧Below w.heap.size w w':=by
 have d0:=F.d0
 have d1:=F.d1
 have r:=hs.reads
 have hn:s.n=M.D:=by rw[←r.len,hl]
 rw[hn] at r ⊢
 exact rms_same a M.D c xs s.a s.c zs w h r (by omega) (by omega)
theorem md_add {M:Md}(F:MdFit M)(w:World)(a0:Option Addr)(c0:Nat)(xs:List Int)(a1:Option Addr)(c1:Nat)(ys:List Int)(h0:Reads .i64 w a0 M.D xs)(h1:Reads .i64 w a1 M.D ys) :
  Calls Tryz.prog 174 #[.slice a0 M.D c0,.slice a1 M.D c1] w fun e w'=>(∃ a c,e=.returned (.tuple #[.slice a M.D c,.int .i64 0])∧Reads .i64 w' a M.D (plusL xs ys)∧M.D≤c∧∀ x,a=some x→w.heap.size≤x.block)∧Below w.heap.size w w':=by
 have d1:=F.d1
 unfold plusL
 rw[h0.len]
 exact add4_same a0 M.D c0 xs a1 c1 ys w h0 h1 (by omega)
theorem md_apply {M:Md}(F:MdFit M){R:Nat}(A:AdFit M R){i:Nat}(hi:i<M.m.ln)(j:Nat)(hj:j<3)(s s':SL)(w:World)(hs:IsS w s (M.a.f i j))(hs':IsS w s' (M.a.f i (j+1)))(a2:Option Addr)(c2:Nat)(xs:List Int)(h2:Reads .i64 w a2 M.D xs) :
  Calls Tryz.prog 175 #[.slice s.a s.n s.c,.slice s'.a s'.n s'.c,.int .i64 M.r,.int .i64 M.s,.slice a2 M.D c2] w fun e w'=>(∃ a c,e=.returned (.tuple #[.slice a M.D c,.int .i64 0])∧Reads .i64 w' a M.D (applR (M.a.f i j) (M.a.f i (j+1)) M.r M.s xs))∧Below w.heap.size w w':=by
 have d1:=F.d1
 have r1:=A.r1
 have s0:=A.s0
 have s1:=A.s1
 have r0:=A.r0
 have er:=A.er
 have pr:R*M.D≤4*8:=Nat.mul_le_mul r1 d1
 have n1:s.n=R*M.D:=by rw[←hs.reads.len,A.f i hi j (by omega)]
 have n2:s'.n=R*M.D:=by rw[←hs'.reads.len,A.f i hi (j+1) (by omega)]
 have ok:=appl_ok F A hi hj h2.len
 refine (apply_call s.a s.n s.c _ s'.a s'.n s'.c _ M.r M.s a2 M.D c2 xs w hs.reads hs.cap hs'.reads hs'.cap h2 (wf_small (by omega) (by omega)) (wf_small (by omega) (by omega)) (by omega) (by omega)).mono ?_
 rintro e w' ⟨a,m,c,rfl,r,hb⟩
 have em:applE (M.a.f i j) (M.a.f i (j+1)) M.r xs=0:=if_pos ok
 have lm:m=M.D:=by
  rw[←r.len]
  unfold applR
  rw[if_pos ok,List.length_map,List.length_range,h2.len]
 subst lm
 exact⟨⟨a,c,by rw[em],r⟩,hb⟩
theorem md_heads {M:Md}(F:MdFit M)(p:Int)(hp:0≤p∧p≤1000)(w:World)(a:Option Addr)(c:Nat)(xs:List Int)(h:Reads .i64 w a M.D xs)(hc:M.D≤c) :
  Calls Tryz.prog 176 #[.slice a M.D c,.int .i64 M.h,.int .i64 p] w fun e w'=>(∃ a c,e=.returned (.tuple #[.slice a M.D c,.int .i64 0])∧Reads .i64 w' a M.D (headsL xs p (M.D/M.H) M.H)∧M.D≤c)∧Below w.heap.size w w':=by
 have d0:=F.d0
 have d1:=F.d1
 have h0:=F.h0
 obtain⟨x,rfl⟩:=h.some_ (by omega)
 rw[F.eH]
 exact heads_ok x M.D c M.H xs p w h hc (by omega) (by omega) ⟨F.dh,F.ev⟩ hp (by omega)
theorem md_all {M:Md}(F:MdFit M)(n:Nat)(hn:n≤100)(w:World)(a:Option Addr)(c:Nat)(q:List Int)(h:Reads .i64 w a M.D q)(hc:M.D≤c)(a1:Option Addr)(c1:Nat)(A:Nat→Option Addr)(C:Nat→Nat)(K:Nat→List Int)(h1:Grid w a1 (n+1) A C K)(hC:∀ r,r<n+1→(K r).length≤C r)(a2:Option Addr)(c2:Nat)(A':Nat→Option Addr)(C':Nat→Nat)(V:Nat→List Int)(h2:Grid w a2 (n+1) A' C' V)(hC':∀ r,r<n+1→(V r).length≤C' r)(hr:∀ r,r<n+1→(K r).length=M.D∧(V r).length=M.D) :
  Calls Tryz.prog 146 #[.slice a M.D c,.slice a1 (n+1) c1,.slice a2 (n+1) c2,.int .i64 M.h] w fun e w'=>(∃ a c,e=.returned (.tuple #[.slice a M.D c,.int .i64 0])∧Reads .i64 w' a M.D (allL q K V (M.D/M.H) (n+1) M.H)∧M.D≤c∧∀ x,a=some x→w.heap.size≤x.block)∧Below w.heap.size w w':=by
 have d0:=F.d0
 have d1:=F.d1
 have h0:=F.h0
 obtain⟨x,rfl⟩:=h.some_ (by omega)
 rw[F.eH]
 exact all_yes x M.D c M.H q a1 (n+1) c1 A C K a2 c2 A' C' V w h hc h1 hC h2 hC' (by omega) (by omega) (by omega) F.dh hr (by omega) (by omega)
theorem md_mix {M:Md}(F:MdFit M){i:Nat}(hi:i<M.m.ln)(s su sd:SL)(Ru Rd:Nat→SL)(w:World)(hs:IsS w s (M.m.f i 6))(hu:IsG w su (M.m.un i) Ru (M.m.u i))(hd:IsG w sd (M.m.dn i) Rd (M.m.d i))(a:Option Addr)(c:Nat)(xs:List Int)(h:Reads .i64 w a M.D xs) :
  Calls Tryz.prog 181 #[.slice s.a s.n s.c,.slice su.a su.n su.c,.slice sd.a sd.n sd.c,.int .i64 M.u,.int .i64 M.t,.slice a M.D c] w fun e w'=>(∃ a c,e=.returned (.tuple #[.slice a M.D c,.int .i64 0])∧Reads .i64 w' a M.D (mixL (M.m.f i 6) (M.m.un i) (M.m.u i) (M.m.d i) M.t xs))∧Below w.heap.size w w':=by
 have d0:=F.d0
 have d1:=F.d1
 have u0:=F.u0
 have u1:=F.u1
 have hx:netsN M.x=(max M.x 1).toNat:=rfl
 have xt:=F.xt
 have eu:=F.un i hi
 have ed:=F.dn i hi
 have n6:s.n≤64:=by
  have:=F.f6 i hi
  rw[hs.reads.len] at this
  obtain⟨X,hX⟩:∃ X:Nat,M.x=X:=⟨M.x.toNat,by omega⟩
  rw[hX,←Int.natCast_mul] at this
  have p:X*M.D≤4*8:=Nat.mul_le_mul (by omega) d1
  omega
 have big:∀ {n:Nat},(n:Int)=M.u*M.D→n*8≤140737488355328:=fun {n} e=>by
  obtain⟨X,hX⟩:∃ X:Nat,M.u=X:=⟨M.u.toNat,by omega⟩
  rw[hX,←Int.natCast_mul] at e
  have p:X*M.D≤8*8:=Nat.mul_le_mul (by omega) d1
  omega
 have g1:=nets_of hu (by omega) (fun j hj=>big (F.u i hi j (by omega)))
 have g2:=nets_of hd (by omega) (fun j hj=>big (F.d i hi j (by omega)))
 have wu:=wf_small (show -1000≤M.u by omega) (by omega)
 have wt:=wf_small (show -1000≤M.t by omega) (by omega)
 have lu:=hu.len
 have ld:=hd.len
 have hE:=mix_fits F hi h.len
 rw[lu,ld]
 exact Mix_yes s.a s.n s.c _ su.a (M.m.un i) su.c _ _ (M.m.u i) sd.a (M.m.dn i) sd.c _ _ (M.m.d i) M.u M.t a M.D c xs w hs.reads hs.cap g1 g2 h wu wt (by omega) (by omega) (by omega) hE
theorem map_get (zs:List Int)(j:Nat)(hj:j<zs.length):(zs.map (Value.int .i64))[j]? = some (.int .i64 (zs.getD j 0)):=by
 simp[hj]
theorem sliceOne17 (a:Option Addr)(n c:Nat):∀ u∈[Value.slice a n c],u.oneCell'=true:=by
 intro u hu
 simp at hu
 subst hu
 rfl
theorem partL_last (P:Nat→List Int)(n f d:Nat)(last:List Int):partL P n f d last n=last:=by unfold partL;rw[if_neg (by omega)]
theorem partL_length (P:Nat→List Int)(n f d:Nat)(last:List Int)(hP:∀ r,r<n→f+d≤(P r).length)(hl:last.length=d){r:Nat}(hr:r<n+1):(partL P n f d last r).length=d:=by
 unfold partL
 by_cases h:r<n
 ·rw[if_pos h]
  have:=hP r h
  simp
  omega
 ·rw[if_neg h,hl]
def saD (i:Nat):Option Nat:=match i with|0=>some 89|1=>some 90|2=>some 91|3=>some 92|4=>some 93|5=>some 94|6=>some 95|7=>some 96|8=>some 97|9=>some 98|10=>some 99|11=>some 100|12=>some 101|13=>some 102|14=>some 103|15=>some 22|_=>none
theorem saD_inj:∀ i,i<16→∀ j,j<16→saD i=saD j→saD i≠none→i=j:=by decide
theorem saD_lt:∀ i,i<16→∀ d,saD i=some d→d<123:=by
 intro i hi d h
 have:∀ i,i<16→(saD i).all (fun d=>decide (d<123))=true:=by decide
 have:=this i hi
 rw[h] at this
 simpa using this
def saF (cb n b1 b2 d0 cq ck cv:Nat)(qa ka va:Option Addr)(hh:Int)(A1 A2:Nat→Option Addr)(C1:Nat→Nat)(K V:Nat→List Int)(O:List Int)(l:Nat→Bool)(i:Nat)(q:Value)(w:World):Prop:=match i with
 | 0=>q=.slice qa d0 cq
 | 1=>q=.slice (some ⟨b1,0,none⟩) n (n+1)
 | 2=>q=.slice ka d0 ck
 | 3=>∃ g,q=.slice (some ⟨g,0,none⟩) 1 1∧g≠b1∧g≠b2∧(l 4=false→Blk 70 w g #[.slice ka d0 ck])
 | 4=>∃ u k,q=.slice u (n+1) k∧(∀ h,(Value.slice u (n+1) k).ownBlock=some h→h≠b2)∧OwnGrid b1 w (.slice u (n+1) k) (n+1) (fun r=>if r=n then ka else A1 r) (fun r=>if r=n then ck else C1 r) K
 | 5=>q=.slice (some ⟨b2,0,none⟩) n (n+1)
 | 6=>q=.slice va d0 cv
 | 7=>∃ g,q=.slice (some ⟨g,0,none⟩) 1 1∧g≠b1∧g≠b2∧(l 8=false→Blk 70 w g #[.slice va d0 cv])
 | 8=>∃ u k,q=.slice u (n+1) k∧(∀ h,(Value.slice u (n+1) k).ownBlock=some h→h≠b1)∧OwnGrid b1 w (.slice u (n+1) k) (n+1) (fun r=>if r=n then va else A2 r) (fun r=>if r=n then cv else C1 r) V
 | 9=>q=.pointer (some ⟨cb,1,none⟩)
 | 10=>q=.int .i64 hh
 | 11=>∃ b bc,q=.tuple #[.slice b d0 bc,.int .i64 0]∧Reads .i64 w b d0 O∧d0≤bc∧∀ x,b=some x→b1≤x.block
 | 12=>∃ b bc,q=.slice b d0 bc∧Reads .i64 w b d0 O∧d0≤bc∧∀ x,b=some x→b1≤x.block
 | 13=>q=.int .i64 0
 | 14=>∃ b bc,q=.slice b d0 bc∧Reads .i64 w b d0 O∧d0≤bc∧∀ x,b=some x→b1≤x.block
 | 15=>∃ b bc,q=.slice b d0 bc∧Reads .i64 w b d0 O∧d0≤bc∧∀ x,b=some x→b1≤x.block
 | _=>True
def saS (b1 b2 n:Nat)(A1 A2:Nat→Option Addr)(C1:Nat→Nat)(K V:Nat→List Int)(w00:World)(l:Nat→Bool)(w:World):Prop:=Below b1 w00 w∧b1<w.heap.size∧b2<w.heap.size∧(l 4=false→OwnGrid b1 w (.slice (some ⟨b1,0,none⟩) n (n+1)) n A1 C1 K)∧(l 8=false→OwnGrid b1 w (.slice (some ⟨b2,0,none⟩) n (n+1)) n A2 C1 V)
theorem saF_below {cb n b1 b2 d0 cq ck cv:Nat}{qa ka va:Option Addr}{hh:Int}{A1 A2:Nat→Option Addr}{C1:Nat→Nat}{K V:Nat→List Int}{O:List Int}{l l':Nat→Bool}{i:Nat}{q:Value}{w w':World}(h:saF cb n b1 b2 d0 cq ck cv qa ka va hh A1 A2 C1 K V O l i q w)(hb:Below w.heap.size w w')(m4:l' 4=l 4)(m8:l' 8=l 8):saF cb n b1 b2 d0 cq ck cv qa ka va hh A1 A2 C1 K V O l' i q w':=by
 unfold saF at h ⊢
 split
 ·exact h
 ·exact h
 ·exact h
 ·obtain⟨g,h1,h2,h3,h4⟩:=h;exact⟨g,h1,h2,h3,fun e=>(h4 (by rw[←m4];exact e)).kept hb⟩
 ·obtain⟨u,k,h1,h2,h3⟩:=h;exact⟨u,k,h1,h2,h3.below hb⟩
 ·exact h
 ·exact h
 ·obtain⟨g,h1,h2,h3,h4⟩:=h;exact⟨g,h1,h2,h3,fun e=>(h4 (by rw[←m8];exact e)).kept hb⟩
 ·obtain⟨u,k,h1,h2,h3⟩:=h;exact⟨u,k,h1,h2,h3.below hb⟩
 ·exact h
 ·exact h
 ·obtain⟨b,bc,h1,h2,h3⟩:=h;exact⟨b,bc,h1,h2.below hb,h3⟩
 ·obtain⟨b,bc,h1,h2,h3⟩:=h;exact⟨b,bc,h1,h2.below hb,h3⟩
 ·exact h
 ·obtain⟨b,bc,h1,h2,h3⟩:=h;exact⟨b,bc,h1,h2.below hb,h3⟩
 ·obtain⟨b,bc,h1,h2,h3⟩:=h;exact⟨b,bc,h1,h2.below hb,h3⟩
 ·trivial
theorem OwnGrid.grown {B:Nat}{w w':World}{v:Value}{k h:Nat}{A:Nat→Option Addr}{C:Nat→Nat}{R:Nat→List Int}(o:OwnGrid B w v k A C R)(hg:w.grownBy w' (some h))(hv:∀ g,v.ownBlock=some g→g≠h)(hr:∀ r,r<k→0<(R r).length→∀ x,A r=some x→x.block≠h):OwnGrid B w' v k A C R:=by
 refine⟨o.own.kept hg ?_,fun r hr'=>(o.row r hr').grown hg (fun h0 x hx g hg'=>by obtain rfl:=Option.some.inj hg';exact hr r hr' h0 x hx),o.apart⟩
 cases e:v.ownBlock with
 | none=>exact .inl rfl
 | some g=>exact .inr (fun e'=>hv g e (Option.some.inj e'))
theorem Blk.grown {t:TypeId}{w w':World}{b h:Nat}{cs:Array Value}(q:Blk t w b cs)(hg:w.grownBy w' (some h))(hn:b≠h):Blk t w' b cs:=(hg.block b q.lt (fun e=>hn (Option.some.inj e))).trans q
theorem run_build31 (p:Option Addr)(n c:Nat)(w:World):(Instr.buildSlice 67 1 #[(0,.slice p n c)]).run Tryz.prog w=.ok (.slice (some ⟨w.heap.size,0,none⟩) 1 1) (w.alloc (.cells #[.slice p n c] 70)):=by go_simp
theorem one_blk {w:World}{g:Nat}{V:Value}{t:TypeId}(q:Blk t w g #[V]):∀ j u,[V][j]? = some u→w.cell? ((⟨g,0,none⟩:Addr).add j)=some u:=by
 intro j u hj
 match j,hj with
 | 0,hj=>simp at hj;subst hj;simpa [Addr.add] using q.cell 0 (v:=V) rfl
theorem app_keep {B b g n d c:Nat}{w:World}{A:Nat→Option Addr}{C:Nat→Nat}{R:Nat→List Int}{p:Option Addr}(ty:TypeId)(og:OwnGrid B w (.slice (some ⟨b,0,none⟩) n (n+1)) n A C R)(hB:B≤w.heap.size)(hn:n≤1000)(hlen:(R n).length=d)(rt:Reads .i64 w p d (R n))(hlow:∀ x,p=some x→x.block≠b)(q:Blk 70 w g #[.slice p d c]) :
  ∃ u k w',(Builtin.append_ #[67,67] ty #[.slice (some ⟨b,0,none⟩) n (n+1),.slice (some ⟨g,0,none⟩) 1 1]).run Tryz.prog w=.ok (.slice u (n+1) k) w'∧OwnGrid B w' (.slice u (n+1) k) (n+1) (fun r=>if r=n then p else A r) (fun r=>if r=n then c else C r) R∧w.grownBy w' (some b)∧Below B w w'∧(∀ h,(Value.slice u (n+1) k).ownBlock=some h→h=b∨w.heap.size≤h):=by
 obtain⟨j0,hj,hy0,hy1,hy2⟩:=info_parts info70
 obtain⟨v',w',hr,ho,hg,hs⟩:=run_append_where (P:=Tryz.prog) w B 67 ty 70 j0 (.slice none 0 0) 24 Tryz.underlying67 hj hy0 hy1 hy2 rfl _ n _ og.own ⟨g,0,none⟩ 1 (.slice p d c) (one_blk q) (sliceOne17 _ _ _) (by unfold maxLen;omega) (by omega) hB
 have oa:=og.app (p:=p) (c:=c) (V:=.slice p d c) (by rw[hlen]) (by rw[hlen];exact rt) (fun _ x hx g' hg' e=>hlow x hx (e.trans (Option.some.inj hg').symm)) ho hg hs
 obtain⟨u,k,rfl,_⟩:=oa.grid
 refine⟨u,k,w',hr,oa,hg,(Below.refl B w).grown hg hB (fun g' h'=>(og.own.lt g' h').1),fun h hh=>?_⟩
 rcases hs with e|e
 ·exact .inl (Option.some.inj ((e ▸ hh:(Value.slice (some (⟨b,0,none⟩:Addr)) n (n+1)).ownBlock=some h))).symm
 ·exact .inr (e h hh)
theorem sa_region {id:Nat}{ops:Array Oper}{Q:Exit→Act→World→Prop}{a0:Act}{w0:World}(cb n b1 b2 d0 cq ck cv:Nat)(qa ka va:Option Addr)(hh:Int)(A1 A2:Nat→Option Addr)(C1:Nat→Nat)(K V:Nat→List Int)(O:List Int)(w00:World)(hlow:lowB ops=true)(hsz:ops.size=16)
  (o0:OpIn ops 0 (some 89) (.move (.tmp 16)) none []) (o1:OpIn ops 1 (some 90) (.move (.tmp 20)) none []) (o2:OpIn ops 2 (some 91) (.move (.tmp 17)) none []) (o3:OpIn ops 3 (some 92) (.buildSlice 67 1 #[(0,.tmp 91)]) none [2]) (o4:OpIn ops 4 (some 93) (.call { callee:=.builtin .append,args:=#[.tmp 90,.tmp 92],argTypes:=#[67,67] }) none [1,3]) (o5:OpIn ops 5 (some 94) (.move (.tmp 21)) none []) (o6:OpIn ops 6 (some 95) (.move (.tmp 18)) none []) (o7:OpIn ops 7 (some 96) (.buildSlice 67 1 #[(0,.tmp 95)]) none [6]) (o8:OpIn ops 8 (some 97) (.call { callee:=.builtin .append,args:=#[.tmp 94,.tmp 96],argTypes:=#[67,67] }) none [5,7]) (o9:OpIn ops 9 (some 98) (.fieldAddr 23 (.tmp 12) 1) none []) (o10:OpIn ops 10 (some 99) (.load 3 (.tmp 98)) none [9]) (o11:OpIn ops 11 (some 100) (.call { callee:=.value (.func 146),args:=#[.tmp 89,.tmp 93,.tmp 97,.tmp 99],argTypes:=#[70,67,67,3] }) none [0,4,8,10]) (o12:OpIn ops 12 (some 101) (.extract (.tmp 100) 0) none [11]) (o13:OpIn ops 13 (some 102) (.extract (.tmp 100) 1) none [11]) (o14:OpIn ops 14 (some 103) (.call { callee:=.value (.func 145),args:=#[.tmp 101,.tmp 102],argTypes:=#[70,40] }) none [12,13]) (o15:OpIn ops 15 (some 22) (.assign (.tmp 103)) none [14])
  (u16:a0.tmps.getD 16 undef=.slice qa d0 cq) (u20:a0.tmps.getD 20 undef=.slice (some ⟨b1,0,none⟩) n (n+1)) (u17:a0.tmps.getD 17 undef=.slice ka d0 ck) (u21:a0.tmps.getD 21 undef=.slice (some ⟨b2,0,none⟩) n (n+1)) (u18:a0.tmps.getD 18 undef=.slice va d0 cv) (u12:a0.tmps.getD 12 undef=.pointer (some ⟨cb,0,none⟩))
  (e1:w00.heap.size=b1) (hb12:b1≠b2) (hn:n≤1000) (hlk:(K n).length=d0) (hlv:(V n).length=d0) (hd:0<d0) (rk:Reads .i64 w00 ka d0 (K n)) (rv:Reads .i64 w00 va d0 (V n)) (lo1:∀ r,r<n→∀ x,A1 r=some x→x.block<b1) (lo2:∀ r,r<n→∀ x,A2 r=some x→x.block<b1)
  (hty4:∀ o,ops[4]? = some o→o.type=67) (hty8:∀ o,ops[8]? = some o→o.type=67)
  (hS:saS b1 b2 n A1 A2 C1 K V w00 (fun _=>false) w0.drew)
  (x9:∀ w,(Instr.fieldAt 23 (.pointer (some ⟨cb,0,none⟩)) 1).run Tryz.prog w=.ok (.pointer (some ⟨cb,1,none⟩)) w) (x10:∀ w,Below b1 w00 w→(Instr.loadAt 3 (.pointer (some ⟨cb,1,none⟩))).run Tryz.prog w=.ok (.int .i64 hh) w)
  (x11:∀ w u1 k1 u2 k2,Below b1 w00 w→Grid w u1 (n+1) (fun r=>if r=n then ka else A1 r) (fun r=>if r=n then ck else C1 r) K→Grid w u2 (n+1) (fun r=>if r=n then va else A2 r) (fun r=>if r=n then cv else C1 r) V→Calls Tryz.prog 146 #[.slice qa d0 cq,.slice u1 (n+1) k1,.slice u2 (n+1) k2,.int .i64 hh] w fun e w'=>∃ b bc,e=.returned (.tuple #[.slice b d0 bc,.int .i64 0])∧Reads .i64 w' b d0 O∧d0≤bc∧(∀ x,b=some x→w.heap.size≤x.block)∧Below w.heap.size w w')
  (hs:123≤a0.tmps.size)
  (fin:∀ a w b bc,a.tmps.size=a0.tmps.size→a.defers=a0.defers→(∀ s,(∀ i,i<16→saD i≠some s)→a.tmps.getD s undef=a0.tmps.getD s undef)→a.tmps.getD 22 undef=.slice b d0 bc→Reads .i64 w b d0 O→d0≤bc→(∀ x,b=some x→b1≤x.block)→Below b1 w00 w→Q .normal a w):(Code.region id ops true).wp Tryz.prog Q a0 w0:=by
 have r62:∀ args w,(callFunc 146 args).run Tryz.prog w=.ok (.enter 146 args) w:=eNo Tryz.func146 (by kernel_rfl) rfl
 have r48:∀ args w,(callFunc 145 args).run Tryz.prog w=.ok (.enter 145 args) w:=eNo Tryz.func145 (by kernel_rfl) rfl
 have lok:∀ x,ka=some x→x.block<b1:=fun x hx=>by
  have:=World.block_lt_of_cell? w00 _ (rk.cell x hx 0 hd)
  rw[e1] at this
  simpa [Addr.add] using this
 have lov:∀ x,va=some x→x.block<b1:=fun x hx=>by
  have:=World.block_lt_of_cell? w00 _ (rv.cell x hx 0 hd)
  rw[e1] at this
  simpa [Addr.add] using this
 refine wRi (by kernel_rfl) hlow (Inv 16 saD a0 (fun l a w=>saS b1 b2 n A1 A2 C1 K V w00 l w) (saF cb n b1 b2 d0 cq ck cv qa ka va hh A1 A2 C1 K V O)) (Inv.start hS) ?_ ?_
 ·intro l i o a w ho hl hcl hdep hI
  have hi:i<16:=by rw[←hsz];exact (Array.getElem?_eq_some_iff.1 ho).1
  have ev:∀ (s:Nat),a.eval (.tmp s)=a.tmps.getD s undef:=fun _=>rfl
  have evf:∀ f,a.eval (.func f)=.func (.func f) #[] #[]:=fun _=>rfl
  have inj:∀ d,saD i=some d→∀ j d',j<16→saD j=some d'→j≠i→d'≠d:=fun d hd j d' hj hd' hne e=>hne (saD_inj j hj i hi (by rw[hd',hd,e]) (by rw[hd'];simp))
  have kp:∀ s,(∀ i,i<16→saD i≠some s)→a.tmps.getD s undef=a0.tmps.getD s undef:=hI.kept
  obtain⟨hw,hs1,hs2,hk4,hk8⟩:=hI.world
  have oth:∀ j,j≠i→(l j || j==i)=l j:=fun j hj=>by rw[show (j==i)=false by simp[hj],Bool.or_false]
  have sam:(l i || i==i)=true:=by simp
  have go:∀ {d:Nat}{v:Value}{w':World},saD i=some d→i≠4∧i≠8→Below w.heap.size w w'→saF cb n b1 b2 d0 cq ck cv qa ka va hh A1 A2 C1 K V O (fun j=>l j || j==i) i v w'→Inv 16 saD a0 (fun l a w=>saS b1 b2 n A1 A2 C1 K V w00 l w) (saF cb n b1 b2 d0 cq ck cv qa ka va hh A1 A2 C1 K V O) (fun j=>l j || j==i) (a.put (some d) v) w':=by
   intro d v w' hD hne hb hF
   refine hI.put hi hD (Nat.lt_of_lt_of_le (saD_lt i hi d hD) hs) (inj d hD) ⟨?_,Nat.lt_of_lt_of_le hs1 hb.size,Nat.lt_of_lt_of_le hs2 hb.size,fun e=>?_,fun e=>?_⟩ hF (fun j u _ _ _ hf=>saF_below hf hb (oth 4 (fun e=>hne.1 e.symm)) (oth 8 (fun e=>hne.2 e.symm)))
   ·exact hw.trans (hb.mono (Nat.le_of_lt hs1))
   ·exact (hk4 (by rw[←oth 4 (fun e=>hne.1 e.symm)];exact e)).below hb
   ·exact (hk8 (by rw[←oth 8 (fun e=>hne.2 e.symm)];exact e)).below hb
  rcases (show i=0∨i=1∨i=2∨i=3∨i=4∨i=5∨i=6∨i=7∨i=8∨i=9∨i=10∨i=11∨i=12∨i=13∨i=14∨i=15 by omega) with rfl|rfl|rfl|rfl|rfl|rfl|rfl|rfl|rfl|rfl|rfl|rfl|rfl|rfl|rfl|rfl
  ·obtain⟨o',e1',e2,e3,e4,e5⟩:=o0
   obtain rfl:=Option.some.inj (ho.symm.trans e1')
   have dp:=dPo e5 hdep
   have U:a.tmps.getD 16 undef=.slice qa d0 cq:=(kp 16 (by decide)).trans u16
   exact wVa (v:=.slice qa d0 cq) (w':=w) ho e4 (by simp[execOp,e3,ev,U]) (by rw[e2];exact go rfl (by decide) (Below.refl _ _) rfl)
  ·obtain⟨o',e1',e2,e3,e4,e5⟩:=o1
   obtain rfl:=Option.some.inj (ho.symm.trans e1')
   have dp:=dPo e5 hdep
   have U:a.tmps.getD 20 undef=.slice (some ⟨b1,0,none⟩) n (n+1):=(kp 20 (by decide)).trans u20
   exact wVa (v:=.slice (some ⟨b1,0,none⟩) n (n+1)) (w':=w) ho e4 (by simp[execOp,e3,ev,U]) (by rw[e2];exact go rfl (by decide) (Below.refl _ _) rfl)
  ·obtain⟨o',e1',e2,e3,e4,e5⟩:=o2
   obtain rfl:=Option.some.inj (ho.symm.trans e1')
   have dp:=dPo e5 hdep
   have U:a.tmps.getD 17 undef=.slice ka d0 ck:=(kp 17 (by decide)).trans u17
   exact wVa (v:=.slice ka d0 ck) (w':=w) ho e4 (by simp[execOp,e3,ev,U]) (by rw[e2];exact go rfl (by decide) (Below.refl _ _) rfl)
  ·obtain⟨o',e1',e2,e3,e4,e5⟩:=o3
   obtain rfl:=Option.some.inj (ho.symm.trans e1')
   have dp:=dPo e5 hdep
   have V2:a.tmps.getD 91 undef=.slice ka d0 ck:=hI.val 2 91 (by decide) rfl (dp 2 (by decide))
   have n4:l 4=false:=by
    cases e:l 4 with
    | false=>rfl
    | true =>
     exfalso
     have y0:=hcl.dep' o4 e 3 (by decide)
     rw[hl] at y0
     cases y0
   refine wVa (v:=.slice (some ⟨w.heap.size,0,none⟩) 1 1) (w':=w.alloc (.cells #[.slice ka d0 ck] 70)) ho e4 (by simp[execOp,e3,ev,V2,run_build31]) ?_
   rw[e2]
   exact go rfl (by decide) (bNw (Below.refl _ _) _) ⟨w.heap.size,rfl,by omega,by omega,fun _=>Blk.new 70 w _⟩
  ·obtain⟨o',e1',e2,e3,e4,e5⟩:=o4
   obtain rfl:=Option.some.inj (ho.symm.trans e1')
   have dp:=dPo e5 hdep
   have V1:a.tmps.getD 90 undef=.slice (some ⟨b1,0,none⟩) n (n+1):=hI.val 1 90 (by decide) rfl (dp 1 (by decide))
   obtain⟨g,V3,g1,g2,gq⟩:∃ g,a.tmps.getD 92 undef=.slice (some ⟨g,0,none⟩) 1 1∧g≠b1∧g≠b2∧(l 4=false→Blk 70 w g #[.slice ka d0 ck]):=hI.val 3 92 (by decide) rfl (dp 3 (by decide))
   obtain⟨u,k,w',hap,oa,hg,hbb,hst⟩:=app_keep 67 (hk4 hl) (Nat.le_of_lt hs1) hn hlk (rk.below (e1 ▸ hw)) (fun x hx=>Nat.ne_of_lt (lok x hx)) (gq hl)
   refine wVa (v:=.slice u (n+1) k) (w':=w') ho e4 (by simp only[execOp,e3,resolve,invoke,builtin,Sem.run_bind,Sem.run_pure,Result.andThen_ok,List.map_toArray,List.map_cons,List.map_nil,ev,V1,V3,hty4 _ ho,hap]) ?_
   rw[e2]
   have n11:l 11=false:=by
    cases e:l 11 with
    | false=>rfl
    | true =>
     exfalso
     have y0:=hcl.dep' o11 e 4 (by decide)
     rw[hl] at y0
     cases y0
   have n12:l 12=false:=by
    cases e:l 12 with
    | false=>rfl
    | true =>
     exfalso
     have y0:=hcl.dep' o12 e 11 (by decide)
     have y1:=hcl.dep' o11 y0 4 (by decide)
     rw[hl] at y1
     cases y1
   have n13:l 13=false:=by
    cases e:l 13 with
    | false=>rfl
    | true =>
     exfalso
     have y0:=hcl.dep' o13 e 11 (by decide)
     have y1:=hcl.dep' o11 y0 4 (by decide)
     rw[hl] at y1
     cases y1
   have n14:l 14=false:=by
    cases e:l 14 with
    | false=>rfl
    | true =>
     exfalso
     have y0:=hcl.dep' o14 e 12 (by decide)
     have y1:=hcl.dep' o12 y0 11 (by decide)
     have y2:=hcl.dep' o11 y1 4 (by decide)
     rw[hl] at y2
     cases y2
   have n15:l 15=false:=by
    cases e:l 15 with
    | false=>rfl
    | true =>
     exfalso
     have y0:=hcl.dep' o15 e 14 (by decide)
     have y1:=hcl.dep' o14 y0 12 (by decide)
     have y2:=hcl.dep' o12 y1 11 (by decide)
     have y3:=hcl.dep' o11 y2 4 (by decide)
     rw[hl] at y3
     cases y3
   have szl:=hg.size
   refine hI.put hi rfl (Nat.lt_of_lt_of_le (by decide) hs) (inj 93 rfl) ⟨hw.trans hbb,Nat.lt_of_lt_of_le hs1 szl,Nat.lt_of_lt_of_le hs2 szl,?_,?_⟩ ?_ (fun j uu hj hjl hne hf=>?_)
   ·intro e
    rw[show ((fun j=>l j || j==4) 4)=(l 4 || 4==4) from rfl,sam] at e
    cases e
   ·intro e
    rw[show ((fun j=>l j || j==4) 8)=(l 8 || 8==4) from rfl,oth 8 (by decide)] at e
    exact (hk8 e).grown hg (fun g hg'=>by obtain rfl:=Option.some.inj hg';exact fun e=>hb12 e.symm) (fun r hr h0 x hx=>by have:=lo2 r hr x hx;omega)
   ·exact⟨u,k,rfl,fun h hh=>by rcases hst h hh with e|e<;>omega,oa⟩
   ·rcases (show j=0∨j=1∨j=2∨j=3∨j=4∨j=5∨j=6∨j=7∨j=8∨j=9∨j=10∨j=11∨j=12∨j=13∨j=14∨j=15 by omega) with rfl|rfl|rfl|rfl|rfl|rfl|rfl|rfl|rfl|rfl|rfl|rfl|rfl|rfl|rfl|rfl
    ·exact hf
    ·exact hf
    ·exact hf
    ·obtain⟨g',h1,h2,h3,h4⟩:=hf
     refine⟨g',h1,h2,h3,fun e=>?_⟩
     rw[show ((fun j=>l j || j==4) 4)=(l 4 || 4==4) from rfl,sam] at e
     cases e
    ·exact absurd rfl hne
    ·exact hf
    ·exact hf
    ·obtain⟨g',h1,h2,h3,h4⟩:=hf
     refine⟨g',h1,h2,h3,fun e=>?_⟩
     rw[show ((fun j=>l j || j==4) 8)=(l 8 || 8==4) from rfl,oth 8 (by decide)] at e
     exact (h4 e).grown hg h2
    ·obtain⟨u',k',h1,h2,h3⟩:=hf
     refine⟨u',k',h1,h2,h3.grown hg h2 (fun r hr h0 x hx=>?_)⟩
     by_cases er:r=n
     ·simp only[er,if_true] at hx
      have:=lov x hx
      omega
     ·simp only[if_neg er] at hx
      have:=lo2 r (by omega) x hx
      omega
    ·exact hf
    ·exact hf
    ·rw[n11] at hjl
     cases hjl
    ·rw[n12] at hjl
     cases hjl
    ·rw[n13] at hjl
     cases hjl
    ·rw[n14] at hjl
     cases hjl
    ·rw[n15] at hjl
     cases hjl
  ·obtain⟨o',e1',e2,e3,e4,e5⟩:=o5
   obtain rfl:=Option.some.inj (ho.symm.trans e1')
   have dp:=dPo e5 hdep
   have U:a.tmps.getD 21 undef=.slice (some ⟨b2,0,none⟩) n (n+1):=(kp 21 (by decide)).trans u21
   exact wVa (v:=.slice (some ⟨b2,0,none⟩) n (n+1)) (w':=w) ho e4 (by simp[execOp,e3,ev,U]) (by rw[e2];exact go rfl (by decide) (Below.refl _ _) rfl)
  ·obtain⟨o',e1',e2,e3,e4,e5⟩:=o6
   obtain rfl:=Option.some.inj (ho.symm.trans e1')
   have dp:=dPo e5 hdep
   have U:a.tmps.getD 18 undef=.slice va d0 cv:=(kp 18 (by decide)).trans u18
   exact wVa (v:=.slice va d0 cv) (w':=w) ho e4 (by simp[execOp,e3,ev,U]) (by rw[e2];exact go rfl (by decide) (Below.refl _ _) rfl)
  ·obtain⟨o',e1',e2,e3,e4,e5⟩:=o7
   obtain rfl:=Option.some.inj (ho.symm.trans e1')
   have dp:=dPo e5 hdep
   have V6:a.tmps.getD 95 undef=.slice va d0 cv:=hI.val 6 95 (by decide) rfl (dp 6 (by decide))
   have n8:l 8=false:=by
    cases e:l 8 with
    | false=>rfl
    | true =>
     exfalso
     have y0:=hcl.dep' o8 e 7 (by decide)
     rw[hl] at y0
     cases y0
   refine wVa (v:=.slice (some ⟨w.heap.size,0,none⟩) 1 1) (w':=w.alloc (.cells #[.slice va d0 cv] 70)) ho e4 (by simp[execOp,e3,ev,V6,run_build31]) ?_
   rw[e2]
   exact go rfl (by decide) (bNw (Below.refl _ _) _) ⟨w.heap.size,rfl,by omega,by omega,fun _=>Blk.new 70 w _⟩
  ·obtain⟨o',e1',e2,e3,e4,e5⟩:=o8
   obtain rfl:=Option.some.inj (ho.symm.trans e1')
   have dp:=dPo e5 hdep
   have V5:a.tmps.getD 94 undef=.slice (some ⟨b2,0,none⟩) n (n+1):=hI.val 5 94 (by decide) rfl (dp 5 (by decide))
   obtain⟨g,V7,g1,g2,gq⟩:∃ g,a.tmps.getD 96 undef=.slice (some ⟨g,0,none⟩) 1 1∧g≠b1∧g≠b2∧(l 8=false→Blk 70 w g #[.slice va d0 cv]):=hI.val 7 96 (by decide) rfl (dp 7 (by decide))
   obtain⟨u,k,w',hap,oa,hg,hbb,hst⟩:=app_keep 67 (hk8 hl) (Nat.le_of_lt hs1) hn hlv (rv.below (e1 ▸ hw)) (fun x hx e=>by have:=lov x hx;have:=(hk8 hl).own.lt b2 rfl;omega) (gq hl)
   refine wVa (v:=.slice u (n+1) k) (w':=w') ho e4 (by simp only[execOp,e3,resolve,invoke,builtin,Sem.run_bind,Sem.run_pure,Result.andThen_ok,List.map_toArray,List.map_cons,List.map_nil,ev,V5,V7,hty8 _ ho,hap]) ?_
   rw[e2]
   have n11:l 11=false:=by
    cases e:l 11 with
    | false=>rfl
    | true =>
     exfalso
     have y0:=hcl.dep' o11 e 8 (by decide)
     rw[hl] at y0
     cases y0
   have n12:l 12=false:=by
    cases e:l 12 with
    | false=>rfl
    | true =>
     exfalso
     have y0:=hcl.dep' o12 e 11 (by decide)
     have y1:=hcl.dep' o11 y0 8 (by decide)
     rw[hl] at y1
     cases y1
   have n13:l 13=false:=by
    cases e:l 13 with
    | false=>rfl
    | true =>
     exfalso
     have y0:=hcl.dep' o13 e 11 (by decide)
     have y1:=hcl.dep' o11 y0 8 (by decide)
     rw[hl] at y1
     cases y1
   have n14:l 14=false:=by
    cases e:l 14 with
    | false=>rfl
    | true =>
     exfalso
     have y0:=hcl.dep' o14 e 12 (by decide)
     have y1:=hcl.dep' o12 y0 11 (by decide)
     have y2:=hcl.dep' o11 y1 8 (by decide)
     rw[hl] at y2
     cases y2
   have n15:l 15=false:=by
    cases e:l 15 with
    | false=>rfl
    | true =>
     exfalso
     have y0:=hcl.dep' o15 e 14 (by decide)
     have y1:=hcl.dep' o14 y0 12 (by decide)
     have y2:=hcl.dep' o12 y1 11 (by decide)
     have y3:=hcl.dep' o11 y2 8 (by decide)
     rw[hl] at y3
     cases y3
   have szl:=hg.size
   refine hI.put hi rfl (Nat.lt_of_lt_of_le (by decide) hs) (inj 97 rfl) ⟨hw.trans hbb,Nat.lt_of_lt_of_le hs1 szl,Nat.lt_of_lt_of_le hs2 szl,?_,?_⟩ ?_ (fun j uu hj hjl hne hf=>?_)
   ·intro e
    rw[show ((fun j=>l j || j==8) 4)=(l 4 || 4==8) from rfl,oth 4 (by decide)] at e
    exact (hk4 e).grown hg (fun g hg'=>by obtain rfl:=Option.some.inj hg';exact hb12) (fun r hr h0 x hx=>by have:=lo1 r hr x hx;have:=(hk8 hl).own.lt b2 rfl;omega)
   ·intro e
    rw[show ((fun j=>l j || j==8) 8)=(l 8 || 8==8) from rfl,sam] at e
    cases e
   ·exact⟨u,k,rfl,fun h hh=>by rcases hst h hh with e|e<;>omega,oa⟩
   ·rcases (show j=0∨j=1∨j=2∨j=3∨j=4∨j=5∨j=6∨j=7∨j=8∨j=9∨j=10∨j=11∨j=12∨j=13∨j=14∨j=15 by omega) with rfl|rfl|rfl|rfl|rfl|rfl|rfl|rfl|rfl|rfl|rfl|rfl|rfl|rfl|rfl|rfl
    ·exact hf
    ·exact hf
    ·exact hf
    ·obtain⟨g',h1,h2,h3,h4⟩:=hf
     refine⟨g',h1,h2,h3,fun e=>?_⟩
     rw[show ((fun j=>l j || j==8) 4)=(l 4 || 4==8) from rfl,oth 4 (by decide)] at e
     exact (h4 e).grown hg h3
    ·obtain⟨u',k',h1,h2,h3⟩:=hf
     refine⟨u',k',h1,h2,h3.grown hg h2 (fun r hr h0 x hx=>?_)⟩
     by_cases er:r=n
     ·simp only[er,if_true] at hx
      have:=lok x hx
      have:=(hk8 hl).own.lt b2 rfl;omega
     ·simp only[if_neg er] at hx
      have:=lo1 r (by omega) x hx
      have:=(hk8 hl).own.lt b2 rfl;omega
    ·exact hf
    ·exact hf
    ·obtain⟨g',h1,h2,h3,h4⟩:=hf
     refine⟨g',h1,h2,h3,fun e=>?_⟩
     rw[show ((fun j=>l j || j==8) 8)=(l 8 || 8==8) from rfl,sam] at e
     cases e
    ·exact absurd rfl hne
    ·exact hf
    ·exact hf
    ·rw[n11] at hjl
     cases hjl
    ·rw[n12] at hjl
     cases hjl
    ·rw[n13] at hjl
     cases hjl
    ·rw[n14] at hjl
     cases hjl
    ·rw[n15] at hjl
     cases hjl
  ·obtain⟨o',e1',e2,e3,e4,e5⟩:=o9
   obtain rfl:=Option.some.inj (ho.symm.trans e1')
   have dp:=dPo e5 hdep
   have U:a.tmps.getD 12 undef=.pointer (some ⟨cb,0,none⟩):=(kp 12 (by decide)).trans u12
   exact wVa (v:=.pointer (some ⟨cb,1,none⟩)) (w':=w) ho e4 (by simp[execOp,e3,ev,U,x9 w]) (by rw[e2];exact go rfl (by decide) (Below.refl _ _) rfl)
  ·obtain⟨o',e1',e2,e3,e4,e5⟩:=o10
   obtain rfl:=Option.some.inj (ho.symm.trans e1')
   have dp:=dPo e5 hdep
   have V9:a.tmps.getD 98 undef=.pointer (some ⟨cb,1,none⟩):=hI.val 9 98 (by decide) rfl (dp 9 (by decide))
   exact wVa (v:=.int .i64 hh) (w':=w) ho e4 (by simp[execOp,e3,ev,V9,x10 w hw]) (by rw[e2];exact go rfl (by decide) (Below.refl _ _) rfl)
  ·obtain⟨o',e1',e2,e3,e4,e5⟩:=o11
   obtain rfl:=Option.some.inj (ho.symm.trans e1')
   have dp:=dPo e5 hdep
   have V0:a.tmps.getD 89 undef=.slice qa d0 cq:=hI.val 0 89 (by decide) rfl (dp 0 (by decide))
   have V10:a.tmps.getD 99 undef=.int .i64 hh:=hI.val 10 99 (by decide) rfl (dp 10 (by decide))
   obtain⟨v4,k4,V4,-,og4⟩:∃ u k,a.tmps.getD 93 undef=.slice u (n+1) k∧(∀ h,(Value.slice u (n+1) k).ownBlock=some h→h≠b2)∧OwnGrid b1 w (.slice u (n+1) k) (n+1) (fun r=>if r=n then ka else A1 r) (fun r=>if r=n then ck else C1 r) K:=hI.val 4 93 (by decide) rfl (dp 4 (by decide))
   obtain⟨v8,k8,V8,-,og8⟩:∃ u k,a.tmps.getD 97 undef=.slice u (n+1) k∧(∀ h,(Value.slice u (n+1) k).ownBlock=some h→h≠b1)∧OwnGrid b1 w (.slice u (n+1) k) (n+1) (fun r=>if r=n then va else A2 r) (fun r=>if r=n then cv else C1 r) V:=hI.val 8 97 (by decide) rfl (dp 8 (by decide))
   obtain⟨a4,c4,ev4,G4⟩:=og4.grid
   simp only[Value.slice.injEq] at ev4
   obtain⟨rfl,-,rfl⟩:=ev4
   obtain⟨a8,c8,ev8,G8⟩:=og8.grid
   simp only[Value.slice.injEq] at ev8
   obtain⟨rfl,-,rfl⟩:=ev8
   refine wCa (f:=146) (args:=#[.slice qa d0 cq,.slice v4 (n+1) k4,.slice v8 (n+1) k8,.int .i64 hh]) ho e4 (by simp[execOp,e3,resolve,invoke,Deferred.ofValue,r62,ev,evf,V0,V4,V8,V10]) ((x11 w _ _ _ _ hw G4 G8).mono ?_)
   rintro e W' ⟨b,bc,rfl,hr,hz,hfr,hb⟩
   refine⟨_,rfl,?_⟩
   rw[e2]
   exact go rfl (by decide) hb ⟨b,bc,rfl,hr,hz,fun x hx=>Nat.le_trans (Nat.le_of_lt hs1) (hfr x hx)⟩
  ·obtain⟨o',e1',e2,e3,e4,e5⟩:=o12
   obtain rfl:=Option.some.inj (ho.symm.trans e1')
   have dp:=dPo e5 hdep
   obtain⟨b,bc,V11,f11,z11⟩:∃ b bc,a.tmps.getD 100 undef=.tuple #[.slice b d0 bc,.int .i64 0]∧Reads .i64 w b d0 O∧d0≤bc∧(∀ x,b=some x→b1≤x.block):=hI.val 11 100 (by decide) rfl (dp 11 (by decide))
   exact wVa (v:=.slice b d0 bc) (w':=w) ho e4 (by simp[execOp,e3,ev,V11,Instr.extract]) (by rw[e2];exact go rfl (by decide) (Below.refl _ _) ⟨b,bc,rfl,f11,z11⟩)
  ·obtain⟨o',e1',e2,e3,e4,e5⟩:=o13
   obtain rfl:=Option.some.inj (ho.symm.trans e1')
   have dp:=dPo e5 hdep
   obtain⟨b,bc,V11,f11,z11⟩:∃ b bc,a.tmps.getD 100 undef=.tuple #[.slice b d0 bc,.int .i64 0]∧Reads .i64 w b d0 O∧d0≤bc∧(∀ x,b=some x→b1≤x.block):=hI.val 11 100 (by decide) rfl (dp 11 (by decide))
   exact wVa (v:=.int .i64 0) (w':=w) ho e4 (by simp[execOp,e3,ev,V11,Instr.extract]) (by rw[e2];exact go rfl (by decide) (Below.refl _ _) rfl)
  ·obtain⟨o',e1',e2,e3,e4,e5⟩:=o14
   obtain rfl:=Option.some.inj (ho.symm.trans e1')
   have dp:=dPo e5 hdep
   obtain⟨b,bc,V12,f12,z12⟩:∃ b bc,a.tmps.getD 101 undef=.slice b d0 bc∧Reads .i64 w b d0 O∧d0≤bc∧(∀ x,b=some x→b1≤x.block):=hI.val 12 101 (by decide) rfl (dp 12 (by decide))
   have V13:a.tmps.getD 102 undef=.int .i64 0:=hI.val 13 102 (by decide) rfl (dp 13 (by decide))
   refine wCa (f:=145) (args:=#[.slice b d0 bc,.int .i64 0]) ho e4 (by simp[execOp,e3,resolve,invoke,Deferred.ofValue,r48,ev,evf,V12,V13]) ((mdmust_yes _ _ _ w).mono ?_)
   rintro e W' ⟨rfl,hq⟩
   refine⟨_,rfl,?_⟩
   rw[e2]
   exact go rfl (by decide) (by rw[hq];exact Below.refl _ _) ⟨b,bc,rfl,by rw[hq];exact f12,z12⟩
  ·obtain⟨o',e1',e2,e3,e4,e5⟩:=o15
   obtain rfl:=Option.some.inj (ho.symm.trans e1')
   have dp:=dPo e5 hdep
   obtain⟨b,bc,V14,f14,z14⟩:∃ b bc,a.tmps.getD 103 undef=.slice b d0 bc∧Reads .i64 w b d0 O∧d0≤bc∧(∀ x,b=some x→b1≤x.block):=hI.val 14 103 (by decide) rfl (dp 14 (by decide))
   exact wVa (v:=.slice b d0 bc) (w':=w) ho e4 (by simp[execOp,e3,ev,V14]) (by rw[e2];exact go rfl (by decide) (Below.refl _ _) ⟨b,bc,rfl,f14,z14⟩)
 ·intro l a w hall hI
  have all:∀ j,j<16→l j=true:=fun j hj=>hall j (by rw[hsz];exact hj)
  obtain⟨b,bc,v15,f15,z15⟩:∃ b bc,a.tmps.getD 22 undef=.slice b d0 bc∧Reads .i64 w b d0 O∧d0≤bc∧(∀ x,b=some x→b1≤x.block):=hI.val 15 22 (by decide) rfl (all 15 (by decide))
  exact fin a w b bc hI.size hI.defers hI.kept v15 f15 z15.1 z15.2 hI.world.1
theorem wpList_make_part {P:Program}(w:World){ops:Array Oper}{rest:List Oper}{o:Oper}{a:Act}{Q:Exit→Act→World→Prop}
  (hg:o.guard=none) (l c:Operand) (t:TypeId) (hop:o.op=Op.makeSlice t l c)
  (e:TypeId) (i:TypeInfo) (z:Value) (h1:P.underlying t=some (.slice e)) (h2:P.info? e=some i) (h3:i.zero=some z) (h4:i.size=1)
  (kl kc:IntKind) (L C:Int) (n m:Nat) (hl:a.eval l=.int kl L) (hc:a.eval c=.int kc C) (hL:L=(n:Int)) (hC:C=(m:Int)) (hnm:n≤m) (b2:i.bytes*m≤281474976710656) (b3:m≤maxLen)
  (hK:∀ w',w'.ownsRow w.heap.size e 1 (.slice (some ⟨w.heap.size,0,none⟩) n m) n ((madeCells z.cells m).toList.take n)→Below w.heap.size w w'→wpList P ops Q rest (a.put o.dst (.slice (some ⟨w.heap.size,0,none⟩) n m)) w') :
  wpList P ops Q (o :: rest) a w:=by
 refine wpList_plain hg fun K hK'=>?_
 subst hL
 subst hC
 have b3':m≤9223372036854775807:=by unfold maxLen at b3;omega
 have hby:((i.bytes*m:Nat):Int)≤281474976710656:=by omega
 rw[Int.natCast_mul] at hby
 have hrun:=run_make (P:=P) w t e i z h1 h2 h3 kl kc n m (by omega) (by omega) hby (by omega)
 simp only[Int.toNat_natCast,h4,Nat.mul_one] at hrun
 unfold Oper.wp
 simp[execOp,hop,hl,hc,hrun,Result.andThen]
 refine hK' _ _ (hK _ ⟨?_,.inr ⟨w.heap.size,m,_,rfl,Nat.le_refl _,heap_alloc_new w _,hnm,b3,?_,?_⟩⟩ (bNw (Below.refl _ _) _))
 ·simp[size_madeCells];omega
 ·rw[size_madeCells,Nat.mul_one]
 ·rw[Nat.mul_one]
theorem own_parts {w wr:World}{a:Option Addr}{n:Nat}{A:Nat→Option Addr}{C:Nat→Nat}{P:Nat→List Int}(h:Grid w a n A C P)(hb:Below w.heap.size w wr){f d:Nat}(hd:0<d)(hr:∀ r,r<n→f+d≤(P r).length){v:Value}{cs:List Value}{G:Nat→Nat}(ho:wr.ownsRow w.heap.size 70 1 v n cs)
  (hc:∀ j,j<n→cs[j]? = some (.slice (cutA A f j) d (G j))) (last:List Int):OwnGrid w.heap.size wr v n (cutA A f) G (partL P n f d last):=by
 have el:∀ r,r<n→partL P n f d last r=cutR P f d r:=fun r hr'=>by unfold partL cutR;rw[if_pos hr']
 have ln:∀ r,r<n→(partL P n f d last r).length=d:=fun r hr'=>by rw[el r hr',cutR_length P f d r (hr r hr')]
 have rd:∀ r,r<n→Reads .i64 w (cutA A f r) d (partL P n f d last r):=fun r hr'=>by
  rw[el r hr']
  have q:=h.row r hr'
  obtain⟨y,ey⟩:=q.some_ (by have:=hr r hr';omega)
  have eA:cutA A f r=some (y.add f):=by unfold cutA;rw[ey];rfl
  rw[eA]
  rw[ey] at q
  exact q.cut f d (hr r hr')
 have e:cs=heads (cutA A f) G (partL P n f d last) n:=by
  refine List.ext_getElem? fun j=>?_
  by_cases hj:j<n
  ·rw[hc j hj]
   simp[heads,hj,ln j hj]
  ·have:=oLe ho
   rw[List.getElem?_eq_none (by omega),List.getElem?_eq_none (by simp[heads];omega)]
 refine⟨e ▸ ho,fun r hr'=>by rw[ln r hr'];exact (rd r hr').below hb,fun r hr' h0 x hx g hg=>?_⟩
 have c0:=(rd r hr').cell x hx 0 (by omega)
 have lt:x.block<w.heap.size:=by
  have:=World.block_lt_of_cell? w _ c0
  simpa [Addr.add] using this
 have:=(ho.lt g hg).1
 omega
theorem cutEach_md (a:Option Addr)(n c:Nat)(A:Nat→Option Addr)(C:Nat→Nat)(P:Nat→List Int)(f d:Nat)(last:List Int)(w:World)(h:Grid w a n A C P)(hC:∀ r,r<n→(P r).length≤C r)(hd:0<d)(hr:∀ r,r<n→f+d≤(P r).length)(hb:n≤1000) :
  Calls Tryz.prog 144 #[.slice a n c,.int .i64 f,.int .i64 d] w fun e w'=>e=.returned (.slice (some ⟨w.heap.size,0,none⟩) n (n+1))∧OwnGrid w.heap.size w' (.slice (some ⟨w.heap.size,0,none⟩) n (n+1)) n (cutA A f) (fun _=>d) (partL P n f d last)∧Below w.heap.size w w':=by
 obtain⟨i0,hi,hz0,hz1,hz2⟩:=info_parts info70
 have hm:=h.max
 obtain⟨m,em⟩:∃ m,n+1=m:=⟨_,rfl⟩
 have em':(n:Int)+1=(m:Int):=by omega
 have hmb:m≤1001:=by omega
 have hnm:n≤m:=by omega
 rw[em]
 clear em
 go_enter Tryz.func144,Tryz.ntmps144
 go_wp2_with (first
  | (at_make;refine wpList_make_part _ rfl (.tmp 11) (.tmp 14) 67 rfl 70 i0 (.slice none 0 0) Tryz.underlying67 hi hz0 hz1 .i64 .i64 _ _ n m rfl rfl rfl (by first|rfl|omega) hnm (by rw[hz2];omega) (by unfold maxLen;omega) ?_;intro w1 hown hbel))
 clear em'
 go_wp2
 go_loopw [18] (fun i wr=>∃ k:Nat,k≤n∧i=.int .i64 k∧Below w.heap.size w wr∧∃ cs,wr.ownsRow w.heap.size 70 1 (.slice (some ⟨w.heap.size,0,none⟩) n m) n cs∧∀ j,j<k→cs[j]? = some (.slice (cutA A f j) d d)) (fun i _=>n-(intOf i).toNat)
 case atStart=>exact⟨0,Nat.zero_le _,rfl,hbel,_,hown,fun j hj=>by omega⟩
 case round =>
  clear hown hbel
  obtain⟨k,hk,rfl,hbr,cs,ho,hcs⟩:=hrel
  by_cases hlt:k<n
  ·obtain⟨x,rfl⟩:=h.some_ (by omega)
   have rk:=h.row k hlt
   have cx:=(h.below hbr).cell x rfl k hlt
   have h1:=hr k hlt
   have h2:=hC k hlt
   have h3:=rk.max
   obtain⟨y,ey⟩:=rk.some_ (by omega)
   have eA:cutA A f k=some (y.add f):=by unfold cutA;rw[ey];rfl
   rw[ey] at cx
   obtain⟨G,eG⟩:∃ G,(P k).length=G:=⟨_,rfl⟩
   rw[eG] at cx h1 h2 h3
   obtain⟨K,eK⟩:∃ K,C k=K:=⟨_,rfl⟩
   rw[eK] at cx h2
   obtain⟨Q,eQ⟩:∃ Q,f+d=Q:=⟨_,rfl⟩
   have eQ':(f:Int)+(d:Int)=(Q:Int):=by omega
   have eQ2:Q-f=d:=by omega
   have hQ:Q≤G:=by omega
   have hQ':Q≤K:=by omega
   have hP:f<Q:=by omega
   have hlen:=oLe ho
   obtain⟨u,hu⟩:∃ u,cs[k]? = some u:=⟨cs[k],by simp[hlen,hlt]⟩
   have cell:wr.cell? ⟨w.heap.size,k,none⟩=some u:=(ho.cellAt k (by omega)).trans hu
   have froz:=ho.frozenAt k
   have Rr:Hid (Below w.heap.size w (wr.setCell ⟨w.heap.size,k,none⟩ (.slice (some (y.add f)) d d))∧∃ cs',(wr.setCell ⟨w.heap.size,k,none⟩ (.slice (some (y.add f)) d d)).ownsRow w.heap.size 70 1 (.slice (some ⟨w.heap.size,0,none⟩) n m) n cs'∧∀ j,j<k+1→cs'[j]? = some (.slice (cutA A f j) d d)) :=
    ⟨hbr.setCell (Nat.le_refl _) _,_,(ho.stored k _).1,set_step (F:=fun j=>Value.slice (cutA A f j) d d) hlen hlt (by rw[eA]) hcs⟩
   clear eQ eG eK eA ey rk ho hcs hlen hbr hu h hr hC hi hz0 hz1 hz2
   go_wp2
   go_roundw
   case rel=>exact⟨k+1,by omega,by go_num,Rr.out⟩
   case measure=>simp[intOf];omega
  ·have e:k=n:=by omega
   subst e
   have fin:=own_parts h hbr hd hr ho hcs last
   clear hcs ho
   go_wp2
   go_ret
   exact⟨rfl,fin,hbr⟩
theorem emb_at (M:Md)(tok j:Nat)(hj:j<M.D):(embL M tok).getD j 0=M.m.e.getD (tok*M.D+j) 0*1024:=by simp[embL,hj]
theorem wf_i8' {y:Int}(h:(Lit.int .i8 y).wf=true):-128≤y∧y≤127:=by
 simpa [Lit.wf,IntKind.min,IntKind.max,IntKind.signed,IntKind.bits] using h
theorem wf_embL {M:Md}(he:∀ i,(Lit.int .i8 (M.m.e.getD i 0)).wf=true)(tok:Nat):∀ z∈embL M tok,(Lit.int .i64 z).wf=true:=fun z hz=>by
 obtain⟨y,_,rfl⟩:=List.mem_map.1 hz
 have:=wf_i8' (he (tok*M.D+y))
 exact WalkArith.wf_i64 ⟨by omega,by omega⟩
theorem embedded_call (M:Md)(E L N O:SL)(Y U D:Nat→Nat→SL)(F:MdFit M)(w:World)(hM:ModAt w E L N O Y U D M.m)(tok:Nat)(ht:(tok:Int)<M.v) :
  Calls Tryz.prog 142 #[.agg #[.int .i64 M.d,.int .i64 M.h,.int .i64 M.l,.int .i64 M.v,.int .i64 M.u,.int .i64 M.x,.int .i64 M.t,.int .i64 M.n,.slice E.a E.n E.c,.slice L.a L.n L.c,.slice N.a N.n N.c,.slice O.a O.n O.c],.int .i64 tok] w fun e w'=>(∃ a c,e=.returned (.slice a M.D c)∧Reads .i64 w' a M.D (embL M tok)∧∀ x,a=some x→w.heap.size≤x.block)∧Below w.heap.size w w':=by
 obtain⟨i0,hi,hz0,hz1,hz2⟩:=info_parts info2
 have d0:=F.d0
 have d1:=F.d1
 have v1:=F.v1
 have eD:=F.eD
 have he:=hM.e
 have elen:(E.n:Int)=M.v*M.D:=by rw[←he.reads.len];exact F.e
 obtain⟨V,hV⟩:∃ V:Nat,M.v=V:=⟨M.v.toNat,by have:=F.v0;omega⟩
 have elen':E.n=V*M.D:=by rw[hV,←Int.natCast_mul] at elen;exact Int.ofNat.inj elen
 have hp:(tok+1)*M.D≤V*M.D:=Nat.mul_le_mul_right _ (by omega)
 rw[Nat.succ_mul] at hp
 have hpb:V*M.D≤16*8:=Nat.mul_le_mul (by omega) d1
 obtain⟨Ea,En,Ec⟩:=E
 obtain⟨y,rfl⟩:∃ y,Ea=some y:=he.reads.some_ (by show 0<En;have:En=V*M.D:=elen';omega)
 obtain⟨P,eP⟩:∃ P,tok*M.D=P:=⟨_,rfl⟩
 have ip:(tok:Int)*(M.D:Int)=(P:Int):=by rw[←eP];simp
 have wfE:=he.reads.wf
 have hE:Reads .i8 w (some y) En M.m.e:=he.reads
 have hcap:En≤Ec:=he.cap
 have elen2:En=V*M.D:=elen'
 have hin:∀ j,j<M.D→P+j<En:=fun j hj=>by omega
 have hEs:En≤128:=by omega
 obtain⟨W0,eW⟩:∃ W0,w.alloc (.cells #[.int .i64 M.d,.int .i64 M.h,.int .i64 M.l,.int .i64 M.v,.int .i64 M.u,.int .i64 M.x,.int .i64 M.t,.int .i64 M.n,.slice (some y) En Ec,.slice L.a L.n L.c,.slice N.a N.n N.c,.slice O.a O.n O.c] 34)=W0:=⟨_,rfl⟩
 have hb0:Below w.heap.size w W0:=eW ▸ bNw (Below.refl _ w) _
 have q0:Blk 34 W0 w.heap.size #[.int .i64 M.d,.int .i64 M.h,.int .i64 M.l,.int .i64 M.v,.int .i64 M.u,.int .i64 M.x,.int .i64 M.t,.int .i64 M.n,.slice (some y) En Ec,.slice L.a L.n L.c,.slice N.a N.n N.c,.slice O.a O.n O.c]:=eW ▸ Blk.new 34 w _
 have hE0:=hE.below hb0
 have HQ:=hdn q0
 have c0:W0.cell? ⟨w.heap.size,0,none⟩=some (.int .i64 M.d):=q0.cell 0 rfl
 obtain⟨D0,eD0⟩:∃ D0,M.D=D0:=⟨_,rfl⟩
 have eE:∀ j,j<D0→(embL M tok).getD j 0=M.m.e.getD (P+j) 0*1024:=fun j hj=>by rw[emb_at M tok j (by omega),eP]
 have ll:(embL M tok).length=D0:=by rw[embL_length,eD0]
 have wfe:=wf_embL (M:=M) wfE tok
 obtain⟨zs,ezs⟩:∃ zs,embL M tok=zs:=⟨_,rfl⟩
 obtain⟨es,ees⟩:∃ es,M.m.e=es:=⟨_,rfl⟩
 rw[ezs] at eE ll wfe ⊢
 rw[ees] at eE hE0 wfE
 rw[eD0] at eD ip d0 d1 hin ⊢
 clear q0 hM F he elen elen' hp hpb eP hE hb0 hcap elen2 hV ht v1 ezs ees eD0
 have Hb:Hid (Below w.heap.size w W0):=eW ▸ bNw (Below.refl _ w) _
 have ED:Hid (M.d=(D0:Int)):=eD
 clear eD
 dsimp only
 go_enter Tryz.func142,Tryz.ntmps142
 go_wp2_with (first|(at_make;(refine wpList_make_full _ rfl (.tmp 9) (.tmp 9) 70 rfl W0.heap.size 2 i0 (.int .i64 0) 1 Tryz.underlying70 hi hz0 hz1 .i64 .i64 _ _ D0 rfl rfl ED.out ED.out (by rw[hz2];omega) (by unfold maxLen;omega) (Nat.le_refl _) ?_);intro w1 hown hgrow))
 have hbel:Below W0.heap.size W0 w1:=(Below.refl _ _).grown hgrow (Nat.le_refl _) (fun k h=>by cases h)
 clear hgrow eW c0
 obtain⟨B0,eB0⟩:∃ B0,W0.heap.size=B0:=⟨_,rfl⟩
 rw[eB0] at hown hbel ⊢
 obtain⟨b,eb⟩:∃ b,w.heap.size=b:=⟨_,rfl⟩
 rw[eb] at HQ ⊢
 go_wp2
 go_loopw [13] (fun i wr=>∃ k:Nat,k≤D0∧i=.int .i64 k∧Below B0 W0 wr∧∃ cs,wr.ownsRow B0 2 1 (.slice (some ⟨B0,0,none⟩) D0 D0) D0 cs∧∀ j,j<k→cs[j]? = some (.int .i64 (zs.getD j 0))) (fun i _=>D0-(intOf i).toNat)
 case atStart=>exact⟨0,Nat.zero_le _,rfl,hbel,_,hown,fun j hj=>by omega⟩
 case round =>
  clear hown hbel
  obtain⟨k,hk,rfl,hbr,cs,ho,hcs⟩:=hrel
  by_cases hlt:k<D0
  ·have hbr':Below W0.heap.size W0 wr:=eB0 ▸ hbr
   have c8:=(HQ.out.kept hbr').cell 8 (v:=.slice (some y) En Ec) rfl
   have hin':=hin k hlt
   have cy:=(hE0.below hbr').cell y rfl (P+k) hin'
   obtain⟨Q,eQ⟩:∃ Q,P+k=Q:=⟨_,rfl⟩
   have iQ:(P:Int)+(k:Int)=(Q:Int):=by omega
   have ek:=eE k hlt
   rw[eQ] at cy hin' ek
   have wq:=wf_i8' (wfE Q)
   obtain⟨X,eX⟩:∃ X,es.getD Q 0=X:=⟨_,rfl⟩
   rw[eX] at cy ek wq
   have hlen:=oLe ho
   obtain⟨u,hu⟩:∃ u,cs[k]? = some u:=⟨cs[k],by simp[hlen,hlt]⟩
   have cell:wr.cell? ⟨B0,k,none⟩=some u:=(ho.cellAt k (by omega)).trans hu
   have froz:=ho.frozenAt k
   have R:Hid (Below B0 W0 (wr.setCell ⟨B0,k,none⟩ (.int .i64 (X*1024)))∧∃ cs',(wr.setCell ⟨B0,k,none⟩ (.int .i64 (X*1024))).ownsRow B0 2 1 (.slice (some ⟨B0,0,none⟩) D0 D0) D0 cs'∧∀ j,j<k+1→cs'[j]? = some (.int .i64 (zs.getD j 0))) :=
    ⟨hbr.setCell (Nat.le_refl _) _,_,(ho.stored k _).1,set_step (F:=fun j=>Value.int .i64 (zs.getD j 0)) hlen hlt (by rw[ek]) hcs⟩
   clear eQ eX ek ho hcs hlen hu hbr hbr' hin eE wfe wfE hi hz0 hz1 hz2
   go_wp2
   go_roundw
   case rel=>exact⟨k+1,by omega,by go_num,R.out⟩
   case measure=>simp[intOf];omega
  ·have e:k=D0:=by omega
   subst e
   have fin:=oRa (zs:=zs) ho ll wfe hcs
   clear hcs ho eE
   have hbr':Below W0.heap.size W0 wr:=eB0 ▸ hbr
   have hbw:=bTn Hb.out hbr'
   have frs:Hid (∀ x:Addr,some (⟨B0,0,none⟩:Addr)=some x→w.heap.size≤x.block):=fun x hx=>by
    have h1:B0=x.block:=congrArg Addr.block (Option.some.inj hx)
    have h2:=Hb.out.size
    omega
   clear hbr hbr'
   go_wp2
   go_ret
   exact⟨⟨_,_,rfl,fin,frs.out⟩,hbw⟩
theorem worked_walk (M:Md)(E L N O:SL)(Y U D:Nat→Nat→SL)(x0:Addr)(F:MdFit M)(i:Nat)(hi:i<M.m.ln)(w:World)(hM:ModAt w E L N O Y U D M.m)(hx0:L.a=some x0)(ax:Option Addr)(cx:Nat)(x:List Int)(ao:Option Addr)(co:Nat)(o:List Int)(hx:Reads .i64 w ax M.D x)(ho:Reads .i64 w ao M.D o) :
  Calls Tryz.prog 147 #[.agg #[.int .i64 M.d,.int .i64 M.h,.int .i64 M.l,.int .i64 M.v,.int .i64 M.u,.int .i64 M.x,.int .i64 M.t,.int .i64 M.n,.slice E.a E.n E.c,.slice (some x0) M.m.ln L.c,.slice N.a N.n N.c,.slice O.a O.n O.c],.int .i64 i,.slice ax M.D cx,.slice ao M.D co] w fun e w'=>(∃ a c,e=.returned (.slice a M.D c)∧Reads .i64 w' a M.D (wkL M i x o)∧∀ x,a=some x→w.heap.size≤x.block)∧Below w.heap.size w w':=by
 have hb1:=bNw (Below.refl w.heap.size w) (.cells #[.int .i64 M.d,.int .i64 M.h,.int .i64 M.l,.int .i64 M.v,.int .i64 M.u,.int .i64 M.x,.int .i64 M.t,.int .i64 M.n,.slice E.a E.n E.c,.slice (some x0) M.m.ln L.c,.slice N.a N.n N.c,.slice O.a O.n O.c] 34)
 have q1:=Blk.new 34 w #[.int .i64 M.d,.int .i64 M.h,.int .i64 M.l,.int .i64 M.v,.int .i64 M.u,.int .i64 M.x,.int .i64 M.t,.int .i64 M.n,.slice E.a E.n E.c,.slice (some x0) M.m.ln L.c,.slice N.a N.n N.c,.slice O.a O.n O.c]
 have km:=fun (W:World) (hb:Below w.heap.size w W) a c xs=>md_mat F hi 4 (by omega) (by omega) (Y i 4) W (((hM.lay i hi).f 4 (by omega)).below hb) a c xs
 have kr:=fun (W:World) (hb:Below w.heap.size w W) a c xs=>md_rms F (Y i 5) _ (F.f5 i hi) W (((hM.lay i hi).f 5 (by omega)).below hb) a c xs
 have kx:=fun (W:World) (hb:Below w.heap.size w W) a c xs=>md_mix F hi (Y i 6) (Y i 7) (Y i 8) (U i) (D i) W (((hM.lay i hi).f 6 (by omega)).below hb) ((hM.lay i hi).u.below hb) ((hM.lay i hi).d.below hb) a c xs
 have ka:=fun (W:World) a0 c0 xs a1 c1 ys=>md_add F W a0 c0 xs a1 c1 ys
 have kb:=ka
 unfold wkL w1L
 go_enter Tryz.func147,Tryz.ntmps147
 go_wp2
 refine wk_region M E L N O Y w.heap.size i x0 U D (hM.below hb1) hx0 hi q1 (by kernel_rfl) rfl ⟨_,rfl,rfl,rfl,rfl,by kernel_rfl⟩ ⟨_,rfl,rfl,rfl,rfl,by kernel_rfl⟩ ⟨_,rfl,rfl,rfl,rfl,by kernel_rfl⟩ ⟨_,rfl,rfl,rfl,rfl,by kernel_rfl⟩ ⟨_,rfl,rfl,rfl,rfl,by kernel_rfl⟩ ⟨_,rfl,rfl,rfl,rfl,by kernel_rfl⟩ ⟨_,rfl,rfl,rfl,rfl,by kernel_rfl⟩ ⟨_,rfl,rfl,rfl,rfl,by kernel_rfl⟩ ⟨_,rfl,rfl,rfl,rfl,by kernel_rfl⟩ ⟨_,rfl,rfl,rfl,rfl,by kernel_rfl⟩ ⟨_,rfl,rfl,rfl,rfl,by kernel_rfl⟩ rfl rfl (Nat.le_of_ble_eq_true rfl) ?_
 intro a W2 cb lb hs hd hkp e9 e10 hb2 qc ql
 have ep:=fPu [12,13,14,15,16,17,18,9,10] hs hd (fun s h=>hkp s (fun j hj e=>h (by
  rcases (show j=0∨j=1∨j=2∨j=3∨j=4∨j=5∨j=6∨j=7∨j=8∨j=9∨j=10 by omega) with rfl|rfl|rfl|rfl|rfl|rfl|rfl|rfl|rfl|rfl|rfl<;>first|(simp only[wkD,Option.some.injEq] at e;subst e;simp;done)|(simp[wkD] at e))))
 simp only[List.foldl] at ep
 rw[e9,e10] at ep
 clear hs hd hkp e9 e10
 generalize a.tmps.getD 12 undef=g12,a.tmps.getD 13 undef=g13,a.tmps.getD 14 undef=g14,a.tmps.getD 15 undef=g15,a.tmps.getD 16 undef=g16,a.tmps.getD 17 undef=g17,a.tmps.getD 18 undef=g18 at ep
 simp only[Act.put,List.setIfInBounds_toArray,List.set_cons_succ,List.set_cons_zero] at ep
 subst ep
 have hb:=bTn hb1 hb2
 have hx2:=hx.below hb
 have ho2:=ho.below hb
 have QC:=hdn qc
 have QL:=hdn ql
 have z0:=qc.cell 0 (v:=.int .i64 M.d) rfl
 have y4:=ql.cell 4 (v:=.slice (Y i 4).a (Y i 4).n (Y i 4).c) rfl
 clear qc ql hb1 hb2 q1 hx ho hM
 go_wp2_with (first
  | (go_at_call 157;refine (km _ hb _ _ _ ho2).mono ?_;rintro e W3 ⟨⟨a3,c3,rfl,r3,l3,-⟩,h3⟩;clear km;have hb3:=bTn hb h3;have x3:=hx2.below h3;have QC3:=hdn (QC.out.kept h3);have QL3:=hdn (QL.out.kept h3);clear h3 hx2 QC QL)
  | (go_at_call 145;refine (mdmust_yes _ _ _ _).mono ?_;rintro e w' ⟨rfl,hq⟩;obtain rfl:=hq.symm;clear hq)
  | (go_at_call 174;refine (ka _ _ _ _ _ _ _ x3 r3).mono ?_;rintro e W4 ⟨⟨a4,c4,rfl,r4,l4,-⟩,h4⟩;clear ka;have hb4:=bTn hb3 h4;have QC4:=hdn (QC3.out.kept h4);have QL4:=hdn (QL3.out.kept h4);have y5:=QL4.out.cell 5 (v:=.slice (Y i 5).a (Y i 5).n (Y i 5).c) rfl;clear h4 x3 r3 QC3 QL3)
  | (go_at_call 148;refine (kr _ hb4 _ _ _ r4).mono ?_;rintro e W5 ⟨⟨a5,c5,rfl,r5,-⟩,h5⟩;clear kr;have hb5:=bTn hb4 h5;have r4':=r4.below h5;have z4:=(QC4.out.kept h5).cell 4 (v:=.int .i64 M.u) rfl;have z6:=(QC4.out.kept h5).cell 6 (v:=.int .i64 M.t) rfl;have y6:=(QL4.out.kept h5).cell 6 (v:=.slice (Y i 6).a (Y i 6).n (Y i 6).c) rfl;have y7:=(QL4.out.kept h5).cell 7 (v:=.slice (Y i 7).a (Y i 7).n (Y i 7).c) rfl;have y8:=(QL4.out.kept h5).cell 8 (v:=.slice (Y i 8).a (Y i 8).n (Y i 8).c) rfl;clear h5 r4 QC4 QL4)
  | (go_at_call 181;refine (kx _ hb5 _ _ _ r5).mono ?_;rintro e W6 ⟨⟨a6,c6,rfl,r6⟩,h6⟩;clear kx;have hb6:=bTn hb5 h6;have r4'':=r4'.below h6;clear h6 r4' r5)
  | (go_at_call 174;refine (kb _ _ _ _ _ _ _ r4'' r6).mono ?_;rintro e W7 ⟨⟨a7,c7,rfl,r7,l7,f7⟩,h7⟩;clear kb;have F7:Hid (∀ x,a7=some x→w.heap.size≤x.block):=fun x hx=>Nat.le_trans hb6.size (f7 x hx);clear f7;have hb7:=bTn hb6 h7;clear h7 r4'' r6))
 go_ret
 exact⟨⟨_,_,rfl,r7,F7.out⟩,hb7⟩
section
structure TwoG (B:Nat) (w:World) (v v2:Value) (k k2:Nat) (A A2:Nat→Option Addr) (C C2:Nat→Nat) (R R2:Nat→List Int):Prop where
 g1:OwnGrid B w v k A C R
 g2:OwnGrid B w v2 k2 A2 C2 R2
 ap:∀ h,v.ownBlock=some h→∀ h2,v2.ownBlock=some h2→h≠h2
 d1:∀ r,r<k→0<(R r).length→∀ x,A r=some x→∀ h,v2.ownBlock=some h→x.block≠h
 d2:∀ r,r<k2→0<(R2 r).length→∀ x,A2 r=some x→∀ h,v.ownBlock=some h→x.block≠h
section
variable {B:Nat}{w:World}{v v2:Value}{k k2:Nat}{A A2:Nat→Option Addr}{C C2:Nat→Nat}{R R2:Nat→List Int}
theorem TwoG.swap (h:TwoG B w v v2 k k2 A A2 C C2 R R2):TwoG B w v2 v k2 k A2 A C2 C R2 R:=⟨h.g2,h.g1,fun a ha b hb e=>h.ap b hb a ha e.symm,h.d2,h.d1⟩
theorem TwoG.below {w':World}(h:TwoG B w v v2 k k2 A A2 C C2 R R2)(hb:Below w.heap.size w w'):TwoG B w' v v2 k k2 A A2 C C2 R R2:=⟨h.g1.below hb,h.g2.below hb,h.ap,h.d1,h.d2⟩
theorem TwoG.none_ (B:Nat)(w:World)(A A2:Nat→Option Addr)(C C2:Nat→Nat)(R R2:Nat→List Int):TwoG B w (.slice none 0 0) (.slice none 0 0) 0 0 A A2 C C2 R R2 :=
 ⟨OwnGrid.nil _ _ _ _ _,OwnGrid.nil _ _ _ _ _,(fun h e=>by cases e),(fun r hr=>by omega),(fun r hr=>by omega)⟩
theorem grid_lt {w:World}{v:Value}{k:Nat}(h:OwnGrid B w v k A C R){r:Nat}(hr:r<k)(h0:0<(R r).length){x:Addr}(hx:A r=some x):x.block<w.heap.size:=by
 have:=World.block_lt_of_cell? w _ ((h.row r hr).cell x hx 0 h0)
 simpa [Addr.add] using this
theorem TwoG.app {w':World}{v':Value}(h:TwoG B w v v2 k k2 A A2 C C2 R R2){p:Option Addr}{c d:Nat}(hlen:(R k).length=d)(rt:Reads .i64 w p d (R k))
  (f1:∀ x,p=some x→∀ g,v.ownBlock=some g→x.block≠g) (f2:∀ x,p=some x→∀ g,v2.ownBlock=some g→x.block≠g)
  (ho:w'.ownsRow B 70 1 v' (k+1) (heads A C R k++[.slice p d c])) (hg:w.grownBy w' v.ownBlock) (hs:Stays w v v') :
  TwoG B w' v' v2 (k+1) k2 (fun r=>if r=k then p else A r) A2 (fun r=>if r=k then c else C r) C2 R R2:=by
 have g1':=h.g1.app (p:=p) (c:=c) (V:=.slice p d c) (by rw[hlen]) (by rw[hlen];exact rt) (fun _=>f1) ho hg hs
 have g2':OwnGrid B w' v2 k2 A2 C2 R2:=by
  cases e:v.ownBlock with
  | none =>
   rw[e] at hg
   exact⟨h.g2.own.kept hg (by cases e2:v2.ownBlock with|none=>exact .inl rfl|some q=>exact .inr (fun q=>by cases q)),fun r hr=>(h.g2.row r hr).grown hg (fun _ _ _ _ q=>by cases q),h.g2.apart⟩
  | some q =>
   rw[e] at hg
   exact h.g2.grown hg (fun q2 hq2=>fun e'=>h.ap q e q2 hq2 e'.symm) (fun r hr h0 x hx=>h.d2 r hr h0 x hx q e)
 refine⟨g1',g2',fun a ha b hb=>?_,fun r hr h0 x hx b hb=>?_,fun r hr h0 x hx a ha=>?_⟩
 ·rcases hs with e|e
  ·exact h.ap a (e ▸ ha) b hb
  ·have h1:=e a ha
   have h2:=(h.g2.own.lt b hb).2
   omega
 ·by_cases e:r=k
  ·simp only[e,if_true] at hx
   exact f2 x hx b hb
  ·simp only[if_neg e] at hx
   exact h.d1 r (by omega) h0 x hx b hb
 ·rcases hs with e|e
  ·exact h.d2 r hr h0 x hx a (e ▸ ha)
  ·have h1:=e a ha
   have h2:=grid_lt h.g2 hr h0 hx
   omega
end
theorem Grid.none_ (w:World)(a:Option Addr)(A:Nat→Option Addr)(C:Nat→Nat)(R:Nat→List Int):Grid w a 0 A C R:=⟨by omega,fun h=>by omega,fun x hx r hr=>by omega,fun r hr=>by omega⟩
theorem Grid.cut {w:World}{x:Addr}{n:Nat}{A:Nat→Option Addr}{C:Nat→Nat}{R:Nat→List Int}(h:Grid w (some x) n A C R)(s m:Nat)(hm:s+m≤n):Grid w (some (x.add s)) m (fun r=>A (s+r)) (fun r=>C (s+r)) (fun r=>R (s+r)) :=
 ⟨by have:=h.max;omega,fun _=>⟨_,rfl⟩,fun y hy r hr=>by obtain rfl:=Option.some.inj hy;rw[Addr.add_add];exact h.cell x rfl (s+r) (by omega),fun r hr=>h.row (s+r) (by omega)⟩
end
end Go.Proofs.YtbkjhfmehemgpaaGreat

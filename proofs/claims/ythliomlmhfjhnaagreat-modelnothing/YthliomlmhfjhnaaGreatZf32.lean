/- Texts put together. -/
import Derived.Test.YthliomlmhfjhnaaGreatRows
import Derived.Test.YthliomlmhfjhnaaGreatZf27
import Derived.Test.YthliomlmhfjhnaaGreatZf29
namespace Go.Proofs.YthliomlmhfjhnaaGreat
set_option maxRecDepth 20000
set_option maxHeartbeats 16000000
open Go.ChangeShapes Go.WideShapes Go.ChangeAt Go.RowKit
set_option linter.unusedVariables false
set_option linter.unusedSimpArgs false
section
def saD (i:Nat):Option Nat:=match i with|0=>some 89|1=>some 90|2=>some 91|3=>some 92|4=>some 93|5=>some 94|6=>some 95|7=>some 96|8=>some 97|9=>some 98|10=>some 99|11=>some 100|12=>some 101|13=>some 102|14=>some 103|15=>some 22|_=>none
theorem saD_inj:∀ i,i<16→∀ j,j<16→saD i=saD j→saD i≠none→i=j:=by decide
theorem saD_lt:∀ i,i<16→∀ d,saD i=some d→d<123:=by
 intro i hi d h
 have:∀ i,i<16→(saD i).all (fun d=>decide (d<123))=true:=by decide
 have:=this i hi
 rw[h] at this
 simpa using this
def saF (cb n b1 b2 d0 cq ck cv:Nat)(qa ka va:Option Addr)(hh:Int)(A1 A2:Nat→Option Addr)(C1:Nat→Nat)(K V:Nat→List Int)(O:List Int)(l:Nat→Bool)(i:Nat)(q:Value)(w:World):Prop:=match i with
 | 0=>q=.slice qa d0 cq
 | 1=>q=.slice (some ⟨b1,0,none⟩) n (n+1)
 | 2=>q=.slice ka d0 ck
 | 3=>∃ g,q=.slice (some ⟨g,0,none⟩) 1 1∧g≠b1∧g≠b2∧(l 4=false→Blk 34 w g #[.slice ka d0 ck])
 | 4=>∃ u k,q=.slice u (n+1) k∧(∀ h,(Value.slice u (n+1) k).ownBlock=some h→h≠b2)∧OwnGrid b1 w (.slice u (n+1) k) (n+1) (fun r=>if r=n then ka else A1 r) (fun r=>if r=n then ck else C1 r) K
 | 5=>q=.slice (some ⟨b2,0,none⟩) n (n+1)
 | 6=>q=.slice va d0 cv
 | 7=>∃ g,q=.slice (some ⟨g,0,none⟩) 1 1∧g≠b1∧g≠b2∧(l 8=false→Blk 34 w g #[.slice va d0 cv])
 | 8=>∃ u k,q=.slice u (n+1) k∧(∀ h,(Value.slice u (n+1) k).ownBlock=some h→h≠b1)∧OwnGrid b1 w (.slice u (n+1) k) (n+1) (fun r=>if r=n then va else A2 r) (fun r=>if r=n then cv else C1 r) V
 | 9=>q=.pointer (some ⟨cb,1,none⟩)
 | 10=>q=.int .i64 hh
 | 11=>∃ b bc,q=.tuple #[.slice b d0 bc,.int .i64 0]∧Reads .i64 w b d0 O∧d0≤bc∧∀ x,b=some x→b1≤x.block
 | 12=>∃ b bc,q=.slice b d0 bc∧Reads .i64 w b d0 O∧d0≤bc∧∀ x,b=some x→b1≤x.block
 | 13=>q=.int .i64 0
 | 14=>∃ b bc,q=.slice b d0 bc∧Reads .i64 w b d0 O∧d0≤bc∧∀ x,b=some x→b1≤x.block
 | 15=>∃ b bc,q=.slice b d0 bc∧Reads .i64 w b d0 O∧d0≤bc∧∀ x,b=some x→b1≤x.block
 | _=>True
def saS (b1 b2 n:Nat)(A1 A2:Nat→Option Addr)(C1:Nat→Nat)(K V:Nat→List Int)(w00:World)(l:Nat→Bool)(w:World):Prop:=Below b1 w00 w∧b1<w.heap.size∧b2<w.heap.size∧(l 4=false→OwnGrid b1 w (.slice (some ⟨b1,0,none⟩) n (n+1)) n A1 C1 K)∧(l 8=false→OwnGrid b1 w (.slice (some ⟨b2,0,none⟩) n (n+1)) n A2 C1 V)
theorem saF_below {cb n b1 b2 d0 cq ck cv:Nat}{qa ka va:Option Addr}{hh:Int}{A1 A2:Nat→Option Addr}{C1:Nat→Nat}{K V:Nat→List Int}{O:List Int}{l l':Nat→Bool}{i:Nat}{q:Value}{w w':World}(h:saF cb n b1 b2 d0 cq ck cv qa ka va hh A1 A2 C1 K V O l i q w)(hb:Below w.heap.size w w')(m4:l' 4=l 4)(m8:l' 8=l 8):saF cb n b1 b2 d0 cq ck cv qa ka va hh A1 A2 C1 K V O l' i q w':=by
 unfold saF at h ⊢
 split
 ·exact h
 ·exact h
 ·exact h
 ·obtain⟨g,h1,h2,h3,h4⟩:=h;exact⟨g,h1,h2,h3,fun e=>(h4 (by rw[←m4];exact e)).kept hb⟩
 ·obtain⟨u,k,h1,h2,h3⟩:=h;exact⟨u,k,h1,h2,h3.below hb⟩
 ·exact h
 ·exact h
 ·obtain⟨g,h1,h2,h3,h4⟩:=h;exact⟨g,h1,h2,h3,fun e=>(h4 (by rw[←m8];exact e)).kept hb⟩
 ·obtain⟨u,k,h1,h2,h3⟩:=h;exact⟨u,k,h1,h2,h3.below hb⟩
 ·exact h
 ·exact h
 ·obtain⟨b,bc,h1,h2,h3⟩:=h;exact⟨b,bc,h1,h2.below hb,h3⟩
 ·obtain⟨b,bc,h1,h2,h3⟩:=h;exact⟨b,bc,h1,h2.below hb,h3⟩
 ·exact h
 ·obtain⟨b,bc,h1,h2,h3⟩:=h;exact⟨b,bc,h1,h2.below hb,h3⟩
 ·obtain⟨b,bc,h1,h2,h3⟩:=h;exact⟨b,bc,h1,h2.below hb,h3⟩
 ·trivial
theorem OwnGrid.grown {B:Nat}{w w':World}{v:Value}{k h:Nat}{A:Nat→Option Addr}{C:Nat→Nat}{R:Nat→List Int}(o:OwnGrid B w v k A C R)(hg:w.grownBy w' (some h))(hv:∀ g,v.ownBlock=some g→g≠h)(hr:∀ r,r<k→0<(R r).length→∀ x,A r=some x→x.block≠h):OwnGrid B w' v k A C R:=by
 refine⟨o.own.kept hg ?_,fun r hr'=>(o.row r hr').grown hg (fun h0 x hx g hg'=>by obtain rfl:=Option.some.inj hg';exact hr r hr' h0 x hx),o.apart⟩
 cases e:v.ownBlock with
 | none=>exact .inl rfl
 | some g=>exact .inr (fun e'=>hv g e (Option.some.inj e'))
theorem Blk.grown {t:TypeId}{w w':World}{b h:Nat}{cs:Array Value}(q:Blk t w b cs)(hg:w.grownBy w' (some h))(hn:b≠h):Blk t w' b cs:=(hg.block b q.lt (fun e=>hn (Option.some.inj e))).trans q
theorem run_build31 (p:Option Addr)(n c:Nat)(w:World):(Instr.buildSlice 31 1 #[(0,.slice p n c)]).run Tryz.prog w=.ok (.slice (some ⟨w.heap.size,0,none⟩) 1 1) (w.alloc (.cells #[.slice p n c] 34)):=by go_simp
theorem one_blk {w:World}{g:Nat}{V:Value}{t:TypeId}(q:Blk t w g #[V]):∀ j u,[V][j]? = some u→w.cell? ((⟨g,0,none⟩:Addr).add j)=some u:=by
 intro j u hj
 match j,hj with
 | 0,hj=>simp at hj;subst hj;simpa [Addr.add] using q.cell 0 (v:=V) rfl
theorem app_keep {B b g n d c:Nat}{w:World}{A:Nat→Option Addr}{C:Nat→Nat}{R:Nat→List Int}{p:Option Addr}(ty:TypeId)(og:OwnGrid B w (.slice (some ⟨b,0,none⟩) n (n+1)) n A C R)(hB:B≤w.heap.size)(hn:n≤1000)(hlen:(R n).length=d)(rt:Reads .i64 w p d (R n))(hlow:∀ x,p=some x→x.block≠b)(q:Blk 34 w g #[.slice p d c]) :
  ∃ u k w',(Builtin.append_ #[31,31] ty #[.slice (some ⟨b,0,none⟩) n (n+1),.slice (some ⟨g,0,none⟩) 1 1]).run Tryz.prog w=.ok (.slice u (n+1) k) w'∧OwnGrid B w' (.slice u (n+1) k) (n+1) (fun r=>if r=n then p else A r) (fun r=>if r=n then c else C r) R∧w.grownBy w' (some b)∧Below B w w'∧(∀ h,(Value.slice u (n+1) k).ownBlock=some h→h=b∨w.heap.size≤h):=by
 obtain⟨j0,hj,hy0,hy1,hy2⟩:=info_parts info34
 obtain⟨v',w',hr,ho,hg,hs⟩:=run_append_where (P:=Tryz.prog) w B 31 ty 34 j0 (.slice none 0 0) 24 Tryz.underlying31 hj hy0 hy1 hy2 rfl _ n _ og.own ⟨g,0,none⟩ 1 (.slice p d c) (one_blk q) (sliceOne17 _ _ _) (by unfold maxLen;omega) (by omega) hB
 have oa:=og.app (p:=p) (c:=c) (V:=.slice p d c) (by rw[hlen]) (by rw[hlen];exact rt) (fun _ x hx g' hg' e=>hlow x hx (e.trans (Option.some.inj hg').symm)) ho hg hs
 obtain⟨u,k,rfl,_⟩:=oa.grid
 refine⟨u,k,w',hr,oa,hg,(Below.refl B w).grown hg hB (fun g' h'=>(og.own.lt g' h').1),fun h hh=>?_⟩
 rcases hs with e|e
 ·exact .inl (Option.some.inj ((e ▸ hh:(Value.slice (some (⟨b,0,none⟩:Addr)) n (n+1)).ownBlock=some h))).symm
 ·exact .inr (e h hh)
theorem sa_region {id:Nat}{ops:Array Oper}{Q:Exit→Act→World→Prop}{a0:Act}{w0:World}(cb n b1 b2 d0 cq ck cv:Nat)(qa ka va:Option Addr)(hh:Int)(A1 A2:Nat→Option Addr)(C1:Nat→Nat)(K V:Nat→List Int)(O:List Int)(w00:World)(hlow:lowB ops=true)(hsz:ops.size=16)
  (o0:OpIn ops 0 (some 89) (.move (.tmp 16)) none []) (o1:OpIn ops 1 (some 90) (.move (.tmp 20)) none []) (o2:OpIn ops 2 (some 91) (.move (.tmp 17)) none []) (o3:OpIn ops 3 (some 92) (.buildSlice 31 1 #[(0,.tmp 91)]) none [2]) (o4:OpIn ops 4 (some 93) (.call { callee:=.builtin .append,args:=#[.tmp 90,.tmp 92],argTypes:=#[31,31] }) none [1,3]) (o5:OpIn ops 5 (some 94) (.move (.tmp 21)) none []) (o6:OpIn ops 6 (some 95) (.move (.tmp 18)) none []) (o7:OpIn ops 7 (some 96) (.buildSlice 31 1 #[(0,.tmp 95)]) none [6]) (o8:OpIn ops 8 (some 97) (.call { callee:=.builtin .append,args:=#[.tmp 94,.tmp 96],argTypes:=#[31,31] }) none [5,7]) (o9:OpIn ops 9 (some 98) (.fieldAddr 23 (.tmp 12) 1) none []) (o10:OpIn ops 10 (some 99) (.load 3 (.tmp 98)) none [9]) (o11:OpIn ops 11 (some 100) (.call { callee:=.value (.func 62),args:=#[.tmp 89,.tmp 93,.tmp 97,.tmp 99],argTypes:=#[34,31,31,3] }) none [0,4,8,10]) (o12:OpIn ops 12 (some 101) (.extract (.tmp 100) 0) none [11]) (o13:OpIn ops 13 (some 102) (.extract (.tmp 100) 1) none [11]) (o14:OpIn ops 14 (some 103) (.call { callee:=.value (.func 48),args:=#[.tmp 101,.tmp 102],argTypes:=#[34,35] }) none [12,13]) (o15:OpIn ops 15 (some 22) (.assign (.tmp 103)) none [14])
  (u16:a0.tmps.getD 16 undef=.slice qa d0 cq) (u20:a0.tmps.getD 20 undef=.slice (some ⟨b1,0,none⟩) n (n+1)) (u17:a0.tmps.getD 17 undef=.slice ka d0 ck) (u21:a0.tmps.getD 21 undef=.slice (some ⟨b2,0,none⟩) n (n+1)) (u18:a0.tmps.getD 18 undef=.slice va d0 cv) (u12:a0.tmps.getD 12 undef=.pointer (some ⟨cb,0,none⟩))
  (e1:w00.heap.size=b1) (hb12:b1≠b2) (hn:n≤1000) (hlk:(K n).length=d0) (hlv:(V n).length=d0) (hd:0<d0) (rk:Reads .i64 w00 ka d0 (K n)) (rv:Reads .i64 w00 va d0 (V n)) (lo1:∀ r,r<n→∀ x,A1 r=some x→x.block<b1) (lo2:∀ r,r<n→∀ x,A2 r=some x→x.block<b1)
  (hty4:∀ o,ops[4]? = some o→o.type=31) (hty8:∀ o,ops[8]? = some o→o.type=31)
  (hS:saS b1 b2 n A1 A2 C1 K V w00 (fun _=>false) w0.drew)
  (x9:∀ w,(Instr.fieldAt 23 (.pointer (some ⟨cb,0,none⟩)) 1).run Tryz.prog w=.ok (.pointer (some ⟨cb,1,none⟩)) w) (x10:∀ w,Below b1 w00 w→(Instr.loadAt 3 (.pointer (some ⟨cb,1,none⟩))).run Tryz.prog w=.ok (.int .i64 hh) w)
  (x11:∀ w u1 k1 u2 k2,Below b1 w00 w→Grid w u1 (n+1) (fun r=>if r=n then ka else A1 r) (fun r=>if r=n then ck else C1 r) K→Grid w u2 (n+1) (fun r=>if r=n then va else A2 r) (fun r=>if r=n then cv else C1 r) V→Calls Tryz.prog 62 #[.slice qa d0 cq,.slice u1 (n+1) k1,.slice u2 (n+1) k2,.int .i64 hh] w fun e w'=>∃ b bc,e=.returned (.tuple #[.slice b d0 bc,.int .i64 0])∧Reads .i64 w' b d0 O∧d0≤bc∧(∀ x,b=some x→w.heap.size≤x.block)∧Below w.heap.size w w')
  (hs:123≤a0.tmps.size)
  (fin:∀ a w b bc,a.tmps.size=a0.tmps.size→a.defers=a0.defers→(∀ s,(∀ i,i<16→saD i≠some s)→a.tmps.getD s undef=a0.tmps.getD s undef)→a.tmps.getD 22 undef=.slice b d0 bc→Reads .i64 w b d0 O→d0≤bc→(∀ x,b=some x→b1≤x.block)→Below b1 w00 w→Q .normal a w):(Code.region id ops true).wp Tryz.prog Q a0 w0:=by
 have r62:∀ args w,(callFunc 62 args).run Tryz.prog w=.ok (.enter 62 args) w:=eNo Tryz.func62 (by kernel_rfl) rfl
 have r48:∀ args w,(callFunc 48 args).run Tryz.prog w=.ok (.enter 48 args) w:=eNo Tryz.func48 (by kernel_rfl) rfl
 have lok:∀ x,ka=some x→x.block<b1:=fun x hx=>by
  have:=World.block_lt_of_cell? w00 _ (rk.cell x hx 0 hd)
  rw[e1] at this
  simpa [Addr.add] using this
 have lov:∀ x,va=some x→x.block<b1:=fun x hx=>by
  have:=World.block_lt_of_cell? w00 _ (rv.cell x hx 0 hd)
  rw[e1] at this
  simpa [Addr.add] using this
 refine wp_region_inv2 (by kernel_rfl) hlow (Inv 16 saD a0 (fun l a w=>saS b1 b2 n A1 A2 C1 K V w00 l w) (saF cb n b1 b2 d0 cq ck cv qa ka va hh A1 A2 C1 K V O)) (Inv.start hS) ?_ ?_
 ·intro l i o a w ho hl hcl hdep hI
  have hi:i<16:=by rw[←hsz];exact (Array.getElem?_eq_some_iff.1 ho).1
  have ev:∀ (s:Nat),a.eval (.tmp s)=a.tmps.getD s undef:=fun _=>rfl
  have evf:∀ f,a.eval (.func f)=.func (.func f) #[] #[]:=fun _=>rfl
  have inj:∀ d,saD i=some d→∀ j d',j<16→saD j=some d'→j≠i→d'≠d:=fun d hd j d' hj hd' hne e=>hne (saD_inj j hj i hi (by rw[hd',hd,e]) (by rw[hd'];simp))
  have kp:∀ s,(∀ i,i<16→saD i≠some s)→a.tmps.getD s undef=a0.tmps.getD s undef:=hI.kept
  obtain⟨hw,hs1,hs2,hk4,hk8⟩:=hI.world
  have oth:∀ j,j≠i→(l j || j==i)=l j:=fun j hj=>by rw[show (j==i)=false by simp[hj],Bool.or_false]
  have sam:(l i || i==i)=true:=by simp
  have go:∀ {d:Nat}{v:Value}{w':World},saD i=some d→i≠4∧i≠8→Below w.heap.size w w'→saF cb n b1 b2 d0 cq ck cv qa ka va hh A1 A2 C1 K V O (fun j=>l j || j==i) i v w'→Inv 16 saD a0 (fun l a w=>saS b1 b2 n A1 A2 C1 K V w00 l w) (saF cb n b1 b2 d0 cq ck cv qa ka va hh A1 A2 C1 K V O) (fun j=>l j || j==i) (a.put (some d) v) w':=by
   intro d v w' hD hne hb hF
   refine hI.put hi hD (Nat.lt_of_lt_of_le (saD_lt i hi d hD) hs) (inj d hD) ⟨?_,Nat.lt_of_lt_of_le hs1 hb.size,Nat.lt_of_lt_of_le hs2 hb.size,fun e=>?_,fun e=>?_⟩ hF (fun j u _ _ _ hf=>saF_below hf hb (oth 4 (fun e=>hne.1 e.symm)) (oth 8 (fun e=>hne.2 e.symm)))
   ·exact hw.trans (hb.mono (Nat.le_of_lt hs1))
   ·exact (hk4 (by rw[←oth 4 (fun e=>hne.1 e.symm)];exact e)).below hb
   ·exact (hk8 (by rw[←oth 8 (fun e=>hne.2 e.symm)];exact e)).below hb
  rcases (show i=0∨i=1∨i=2∨i=3∨i=4∨i=5∨i=6∨i=7∨i=8∨i=9∨i=10∨i=11∨i=12∨i=13∨i=14∨i=15 by omega) with rfl|rfl|rfl|rfl|rfl|rfl|rfl|rfl|rfl|rfl|rfl|rfl|rfl|rfl|rfl|rfl
  ·obtain⟨o',e1',e2,e3,e4,e5⟩:=o0
   obtain rfl:=Option.some.inj (ho.symm.trans e1')
   have dp:=dPo e5 hdep
   have U:a.tmps.getD 16 undef=.slice qa d0 cq:=(kp 16 (by decide)).trans u16
   exact wVa (v:=.slice qa d0 cq) (w':=w) ho e4 (by simp[execOp,e3,ev,U]) (by rw[e2];exact go rfl (by decide) (Below.refl _ _) rfl)
  ·obtain⟨o',e1',e2,e3,e4,e5⟩:=o1
   obtain rfl:=Option.some.inj (ho.symm.trans e1')
   have dp:=dPo e5 hdep
   have U:a.tmps.getD 20 undef=.slice (some ⟨b1,0,none⟩) n (n+1):=(kp 20 (by decide)).trans u20
   exact wVa (v:=.slice (some ⟨b1,0,none⟩) n (n+1)) (w':=w) ho e4 (by simp[execOp,e3,ev,U]) (by rw[e2];exact go rfl (by decide) (Below.refl _ _) rfl)
  ·obtain⟨o',e1',e2,e3,e4,e5⟩:=o2
   obtain rfl:=Option.some.inj (ho.symm.trans e1')
   have dp:=dPo e5 hdep
   have U:a.tmps.getD 17 undef=.slice ka d0 ck:=(kp 17 (by decide)).trans u17
   exact wVa (v:=.slice ka d0 ck) (w':=w) ho e4 (by simp[execOp,e3,ev,U]) (by rw[e2];exact go rfl (by decide) (Below.refl _ _) rfl)
  ·obtain⟨o',e1',e2,e3,e4,e5⟩:=o3
   obtain rfl:=Option.some.inj (ho.symm.trans e1')
   have dp:=dPo e5 hdep
   have V2:a.tmps.getD 91 undef=.slice ka d0 ck:=hI.val 2 91 (by decide) rfl (dp 2 (by decide))
   have n4:l 4=false:=by
    cases e:l 4 with
    | false=>rfl
    | true =>
     exfalso
     have y0:=hcl.dep' o4 e 3 (by decide)
     rw[hl] at y0
     cases y0
   refine wVa (v:=.slice (some ⟨w.heap.size,0,none⟩) 1 1) (w':=w.alloc (.cells #[.slice ka d0 ck] 34)) ho e4 (by simp[execOp,e3,ev,V2,run_build31]) ?_
   rw[e2]
   exact go rfl (by decide) (bNw (Below.refl _ _) _) ⟨w.heap.size,rfl,by omega,by omega,fun _=>Blk.new 34 w _⟩
  ·obtain⟨o',e1',e2,e3,e4,e5⟩:=o4
   obtain rfl:=Option.some.inj (ho.symm.trans e1')
   have dp:=dPo e5 hdep
   have V1:a.tmps.getD 90 undef=.slice (some ⟨b1,0,none⟩) n (n+1):=hI.val 1 90 (by decide) rfl (dp 1 (by decide))
   obtain⟨g,V3,g1,g2,gq⟩:∃ g,a.tmps.getD 92 undef=.slice (some ⟨g,0,none⟩) 1 1∧g≠b1∧g≠b2∧(l 4=false→Blk 34 w g #[.slice ka d0 ck]):=hI.val 3 92 (by decide) rfl (dp 3 (by decide))
   obtain⟨u,k,w',hap,oa,hg,hbb,hst⟩:=app_keep 31 (hk4 hl) (Nat.le_of_lt hs1) hn hlk (rk.below (e1 ▸ hw)) (fun x hx=>Nat.ne_of_lt (lok x hx)) (gq hl)
   refine wVa (v:=.slice u (n+1) k) (w':=w') ho e4 (by simp only[execOp,e3,resolve,invoke,builtin,Sem.run_bind,Sem.run_pure,Result.andThen_ok,List.map_toArray,List.map_cons,List.map_nil,ev,V1,V3,hty4 _ ho,hap]) ?_
   rw[e2]
   have n11:l 11=false:=by
    cases e:l 11 with
    | false=>rfl
    | true =>
     exfalso
     have y0:=hcl.dep' o11 e 4 (by decide)
     rw[hl] at y0
     cases y0
   have n12:l 12=false:=by
    cases e:l 12 with
    | false=>rfl
    | true =>
     exfalso
     have y0:=hcl.dep' o12 e 11 (by decide)
     have y1:=hcl.dep' o11 y0 4 (by decide)
     rw[hl] at y1
     cases y1
   have n13:l 13=false:=by
    cases e:l 13 with
    | false=>rfl
    | true =>
     exfalso
     have y0:=hcl.dep' o13 e 11 (by decide)
     have y1:=hcl.dep' o11 y0 4 (by decide)
     rw[hl] at y1
     cases y1
   have n14:l 14=false:=by
    cases e:l 14 with
    | false=>rfl
    | true =>
     exfalso
     have y0:=hcl.dep' o14 e 12 (by decide)
     have y1:=hcl.dep' o12 y0 11 (by decide)
     have y2:=hcl.dep' o11 y1 4 (by decide)
     rw[hl] at y2
     cases y2
   have n15:l 15=false:=by
    cases e:l 15 with
    | false=>rfl
    | true =>
     exfalso
     have y0:=hcl.dep' o15 e 14 (by decide)
     have y1:=hcl.dep' o14 y0 12 (by decide)
     have y2:=hcl.dep' o12 y1 11 (by decide)
     have y3:=hcl.dep' o11 y2 4 (by decide)
     rw[hl] at y3
     cases y3
   have szl:=hg.size
   refine hI.put hi rfl (Nat.lt_of_lt_of_le (by decide) hs) (inj 93 rfl) ⟨hw.trans hbb,Nat.lt_of_lt_of_le hs1 szl,Nat.lt_of_lt_of_le hs2 szl,?_,?_⟩ ?_ (fun j uu hj hjl hne hf=>?_)
   ·intro e
    rw[show ((fun j=>l j || j==4) 4)=(l 4 || 4==4) from rfl,sam] at e
    cases e
   ·intro e
    rw[show ((fun j=>l j || j==4) 8)=(l 8 || 8==4) from rfl,oth 8 (by decide)] at e
    exact (hk8 e).grown hg (fun g hg'=>by obtain rfl:=Option.some.inj hg';exact fun e=>hb12 e.symm) (fun r hr h0 x hx=>by have:=lo2 r hr x hx;omega)
   ·exact⟨u,k,rfl,fun h hh=>by rcases hst h hh with e|e<;>omega,oa⟩
   ·rcases (show j=0∨j=1∨j=2∨j=3∨j=4∨j=5∨j=6∨j=7∨j=8∨j=9∨j=10∨j=11∨j=12∨j=13∨j=14∨j=15 by omega) with rfl|rfl|rfl|rfl|rfl|rfl|rfl|rfl|rfl|rfl|rfl|rfl|rfl|rfl|rfl|rfl
    ·exact hf
    ·exact hf
    ·exact hf
    ·obtain⟨g',h1,h2,h3,h4⟩:=hf
     refine⟨g',h1,h2,h3,fun e=>?_⟩
     rw[show ((fun j=>l j || j==4) 4)=(l 4 || 4==4) from rfl,sam] at e
     cases e
    ·exact absurd rfl hne
    ·exact hf
    ·exact hf
    ·obtain⟨g',h1,h2,h3,h4⟩:=hf
     refine⟨g',h1,h2,h3,fun e=>?_⟩
     rw[show ((fun j=>l j || j==4) 8)=(l 8 || 8==4) from rfl,oth 8 (by decide)] at e
     exact (h4 e).grown hg h2
    ·obtain⟨u',k',h1,h2,h3⟩:=hf
     refine⟨u',k',h1,h2,h3.grown hg h2 (fun r hr h0 x hx=>?_)⟩
     by_cases er:r=n
     ·simp only[er,if_true] at hx
      have:=lov x hx
      omega
     ·simp only[if_neg er] at hx
      have:=lo2 r (by omega) x hx
      omega
    ·exact hf
    ·exact hf
    ·rw[n11] at hjl
     cases hjl
    ·rw[n12] at hjl
     cases hjl
    ·rw[n13] at hjl
     cases hjl
    ·rw[n14] at hjl
     cases hjl
    ·rw[n15] at hjl
     cases hjl
  ·obtain⟨o',e1',e2,e3,e4,e5⟩:=o5
   obtain rfl:=Option.some.inj (ho.symm.trans e1')
   have dp:=dPo e5 hdep
   have U:a.tmps.getD 21 undef=.slice (some ⟨b2,0,none⟩) n (n+1):=(kp 21 (by decide)).trans u21
   exact wVa (v:=.slice (some ⟨b2,0,none⟩) n (n+1)) (w':=w) ho e4 (by simp[execOp,e3,ev,U]) (by rw[e2];exact go rfl (by decide) (Below.refl _ _) rfl)
  ·obtain⟨o',e1',e2,e3,e4,e5⟩:=o6
   obtain rfl:=Option.some.inj (ho.symm.trans e1')
   have dp:=dPo e5 hdep
   have U:a.tmps.getD 18 undef=.slice va d0 cv:=(kp 18 (by decide)).trans u18
   exact wVa (v:=.slice va d0 cv) (w':=w) ho e4 (by simp[execOp,e3,ev,U]) (by rw[e2];exact go rfl (by decide) (Below.refl _ _) rfl)
  ·obtain⟨o',e1',e2,e3,e4,e5⟩:=o7
   obtain rfl:=Option.some.inj (ho.symm.trans e1')
   have dp:=dPo e5 hdep
   have V6:a.tmps.getD 95 undef=.slice va d0 cv:=hI.val 6 95 (by decide) rfl (dp 6 (by decide))
   have n8:l 8=false:=by
    cases e:l 8 with
    | false=>rfl
    | true =>
     exfalso
     have y0:=hcl.dep' o8 e 7 (by decide)
     rw[hl] at y0
     cases y0
   refine wVa (v:=.slice (some ⟨w.heap.size,0,none⟩) 1 1) (w':=w.alloc (.cells #[.slice va d0 cv] 34)) ho e4 (by simp[execOp,e3,ev,V6,run_build31]) ?_
   rw[e2]
   exact go rfl (by decide) (bNw (Below.refl _ _) _) ⟨w.heap.size,rfl,by omega,by omega,fun _=>Blk.new 34 w _⟩
  ·obtain⟨o',e1',e2,e3,e4,e5⟩:=o8
   obtain rfl:=Option.some.inj (ho.symm.trans e1')
   have dp:=dPo e5 hdep
   have V5:a.tmps.getD 94 undef=.slice (some ⟨b2,0,none⟩) n (n+1):=hI.val 5 94 (by decide) rfl (dp 5 (by decide))
   obtain⟨g,V7,g1,g2,gq⟩:∃ g,a.tmps.getD 96 undef=.slice (some ⟨g,0,none⟩) 1 1∧g≠b1∧g≠b2∧(l 8=false→Blk 34 w g #[.slice va d0 cv]):=hI.val 7 96 (by decide) rfl (dp 7 (by decide))
   obtain⟨u,k,w',hap,oa,hg,hbb,hst⟩:=app_keep 31 (hk8 hl) (Nat.le_of_lt hs1) hn hlv (rv.below (e1 ▸ hw)) (fun x hx e=>by have:=lov x hx;have:=(hk8 hl).own.lt b2 rfl;omega) (gq hl)
   refine wVa (v:=.slice u (n+1) k) (w':=w') ho e4 (by simp only[execOp,e3,resolve,invoke,builtin,Sem.run_bind,Sem.run_pure,Result.andThen_ok,List.map_toArray,List.map_cons,List.map_nil,ev,V5,V7,hty8 _ ho,hap]) ?_
   rw[e2]
   have n11:l 11=false:=by
    cases e:l 11 with
    | false=>rfl
    | true =>
     exfalso
     have y0:=hcl.dep' o11 e 8 (by decide)
     rw[hl] at y0
     cases y0
   have n12:l 12=false:=by
    cases e:l 12 with
    | false=>rfl
    | true =>
     exfalso
     have y0:=hcl.dep' o12 e 11 (by decide)
     have y1:=hcl.dep' o11 y0 8 (by decide)
     rw[hl] at y1
     cases y1
   have n13:l 13=false:=by
    cases e:l 13 with
    | false=>rfl
    | true =>
     exfalso
     have y0:=hcl.dep' o13 e 11 (by decide)
     have y1:=hcl.dep' o11 y0 8 (by decide)
     rw[hl] at y1
     cases y1
   have n14:l 14=false:=by
    cases e:l 14 with
    | false=>rfl
    | true =>
     exfalso
     have y0:=hcl.dep' o14 e 12 (by decide)
     have y1:=hcl.dep' o12 y0 11 (by decide)
     have y2:=hcl.dep' o11 y1 8 (by decide)
     rw[hl] at y2
     cases y2
   have n15:l 15=false:=by
    cases e:l 15 with
    | false=>rfl
    | true =>
     exfalso
     have y0:=hcl.dep' o15 e 14 (by decide)
     have y1:=hcl.dep' o14 y0 12 (by decide)
     have y2:=hcl.dep' o12 y1 11 (by decide)
     have y3:=hcl.dep' o11 y2 8 (by decide)
     rw[hl] at y3
     cases y3
   have szl:=hg.size
   refine hI.put hi rfl (Nat.lt_of_lt_of_le (by decide) hs) (inj 97 rfl) ⟨hw.trans hbb,Nat.lt_of_lt_of_le hs1 szl,Nat.lt_of_lt_of_le hs2 szl,?_,?_⟩ ?_ (fun j uu hj hjl hne hf=>?_)
   ·intro e
    rw[show ((fun j=>l j || j==8) 4)=(l 4 || 4==8) from rfl,oth 4 (by decide)] at e
    exact (hk4 e).grown hg (fun g hg'=>by obtain rfl:=Option.some.inj hg';exact hb12) (fun r hr h0 x hx=>by have:=lo1 r hr x hx;have:=(hk8 hl).own.lt b2 rfl;omega)
   ·intro e
    rw[show ((fun j=>l j || j==8) 8)=(l 8 || 8==8) from rfl,sam] at e
    cases e
   ·exact⟨u,k,rfl,fun h hh=>by rcases hst h hh with e|e<;>omega,oa⟩
   ·rcases (show j=0∨j=1∨j=2∨j=3∨j=4∨j=5∨j=6∨j=7∨j=8∨j=9∨j=10∨j=11∨j=12∨j=13∨j=14∨j=15 by omega) with rfl|rfl|rfl|rfl|rfl|rfl|rfl|rfl|rfl|rfl|rfl|rfl|rfl|rfl|rfl|rfl
    ·exact hf
    ·exact hf
    ·exact hf
    ·obtain⟨g',h1,h2,h3,h4⟩:=hf
     refine⟨g',h1,h2,h3,fun e=>?_⟩
     rw[show ((fun j=>l j || j==8) 4)=(l 4 || 4==8) from rfl,oth 4 (by decide)] at e
     exact (h4 e).grown hg h3
    ·obtain⟨u',k',h1,h2,h3⟩:=hf
     refine⟨u',k',h1,h2,h3.grown hg h2 (fun r hr h0 x hx=>?_)⟩
     by_cases er:r=n
     ·simp only[er,if_true] at hx
      have:=lok x hx
      have:=(hk8 hl).own.lt b2 rfl;omega
     ·simp only[if_neg er] at hx
      have:=lo1 r (by omega) x hx
      have:=(hk8 hl).own.lt b2 rfl;omega
    ·exact hf
    ·exact hf
    ·obtain⟨g',h1,h2,h3,h4⟩:=hf
     refine⟨g',h1,h2,h3,fun e=>?_⟩
     rw[show ((fun j=>l j || j==8) 8)=(l 8 || 8==8) from rfl,sam] at e
     cases e
    ·exact absurd rfl hne
    ·exact hf
    ·exact hf
    ·rw[n11] at hjl
     cases hjl
    ·rw[n12] at hjl
     cases hjl
    ·rw[n13] at hjl
     cases hjl
    ·rw[n14] at hjl
     cases hjl
    ·rw[n15] at hjl
     cases hjl
  ·obtain⟨o',e1',e2,e3,e4,e5⟩:=o9
   obtain rfl:=Option.some.inj (ho.symm.trans e1')
   have dp:=dPo e5 hdep
   have U:a.tmps.getD 12 undef=.pointer (some ⟨cb,0,none⟩):=(kp 12 (by decide)).trans u12
   exact wVa (v:=.pointer (some ⟨cb,1,none⟩)) (w':=w) ho e4 (by simp[execOp,e3,ev,U,x9 w]) (by rw[e2];exact go rfl (by decide) (Below.refl _ _) rfl)
  ·obtain⟨o',e1',e2,e3,e4,e5⟩:=o10
   obtain rfl:=Option.some.inj (ho.symm.trans e1')
   have dp:=dPo e5 hdep
   have V9:a.tmps.getD 98 undef=.pointer (some ⟨cb,1,none⟩):=hI.val 9 98 (by decide) rfl (dp 9 (by decide))
   exact wVa (v:=.int .i64 hh) (w':=w) ho e4 (by simp[execOp,e3,ev,V9,x10 w hw]) (by rw[e2];exact go rfl (by decide) (Below.refl _ _) rfl)
  ·obtain⟨o',e1',e2,e3,e4,e5⟩:=o11
   obtain rfl:=Option.some.inj (ho.symm.trans e1')
   have dp:=dPo e5 hdep
   have V0:a.tmps.getD 89 undef=.slice qa d0 cq:=hI.val 0 89 (by decide) rfl (dp 0 (by decide))
   have V10:a.tmps.getD 99 undef=.int .i64 hh:=hI.val 10 99 (by decide) rfl (dp 10 (by decide))
   obtain⟨v4,k4,V4,-,og4⟩:∃ u k,a.tmps.getD 93 undef=.slice u (n+1) k∧(∀ h,(Value.slice u (n+1) k).ownBlock=some h→h≠b2)∧OwnGrid b1 w (.slice u (n+1) k) (n+1) (fun r=>if r=n then ka else A1 r) (fun r=>if r=n then ck else C1 r) K:=hI.val 4 93 (by decide) rfl (dp 4 (by decide))
   obtain⟨v8,k8,V8,-,og8⟩:∃ u k,a.tmps.getD 97 undef=.slice u (n+1) k∧(∀ h,(Value.slice u (n+1) k).ownBlock=some h→h≠b1)∧OwnGrid b1 w (.slice u (n+1) k) (n+1) (fun r=>if r=n then va else A2 r) (fun r=>if r=n then cv else C1 r) V:=hI.val 8 97 (by decide) rfl (dp 8 (by decide))
   obtain⟨a4,c4,ev4,G4⟩:=og4.grid
   simp only[Value.slice.injEq] at ev4
   obtain⟨rfl,-,rfl⟩:=ev4
   obtain⟨a8,c8,ev8,G8⟩:=og8.grid
   simp only[Value.slice.injEq] at ev8
   obtain⟨rfl,-,rfl⟩:=ev8
   refine wCa (f:=62) (args:=#[.slice qa d0 cq,.slice v4 (n+1) k4,.slice v8 (n+1) k8,.int .i64 hh]) ho e4 (by simp[execOp,e3,resolve,invoke,Deferred.ofValue,r62,ev,evf,V0,V4,V8,V10]) ((x11 w _ _ _ _ hw G4 G8).mono ?_)
   rintro e W' ⟨b,bc,rfl,hr,hz,hfr,hb⟩
   refine⟨_,rfl,?_⟩
   rw[e2]
   exact go rfl (by decide) hb ⟨b,bc,rfl,hr,hz,fun x hx=>Nat.le_trans (Nat.le_of_lt hs1) (hfr x hx)⟩
  ·obtain⟨o',e1',e2,e3,e4,e5⟩:=o12
   obtain rfl:=Option.some.inj (ho.symm.trans e1')
   have dp:=dPo e5 hdep
   obtain⟨b,bc,V11,f11,z11⟩:∃ b bc,a.tmps.getD 100 undef=.tuple #[.slice b d0 bc,.int .i64 0]∧Reads .i64 w b d0 O∧d0≤bc∧(∀ x,b=some x→b1≤x.block):=hI.val 11 100 (by decide) rfl (dp 11 (by decide))
   exact wVa (v:=.slice b d0 bc) (w':=w) ho e4 (by simp[execOp,e3,ev,V11,Instr.extract]) (by rw[e2];exact go rfl (by decide) (Below.refl _ _) ⟨b,bc,rfl,f11,z11⟩)
  ·obtain⟨o',e1',e2,e3,e4,e5⟩:=o13
   obtain rfl:=Option.some.inj (ho.symm.trans e1')
   have dp:=dPo e5 hdep
   obtain⟨b,bc,V11,f11,z11⟩:∃ b bc,a.tmps.getD 100 undef=.tuple #[.slice b d0 bc,.int .i64 0]∧Reads .i64 w b d0 O∧d0≤bc∧(∀ x,b=some x→b1≤x.block):=hI.val 11 100 (by decide) rfl (dp 11 (by decide))
   exact wVa (v:=.int .i64 0) (w':=w) ho e4 (by simp[execOp,e3,ev,V11,Instr.extract]) (by rw[e2];exact go rfl (by decide) (Below.refl _ _) rfl)
  ·obtain⟨o',e1',e2,e3,e4,e5⟩:=o14
   obtain rfl:=Option.some.inj (ho.symm.trans e1')
   have dp:=dPo e5 hdep
   obtain⟨b,bc,V12,f12,z12⟩:∃ b bc,a.tmps.getD 101 undef=.slice b d0 bc∧Reads .i64 w b d0 O∧d0≤bc∧(∀ x,b=some x→b1≤x.block):=hI.val 12 101 (by decide) rfl (dp 12 (by decide))
   have V13:a.tmps.getD 102 undef=.int .i64 0:=hI.val 13 102 (by decide) rfl (dp 13 (by decide))
   refine wCa (f:=48) (args:=#[.slice b d0 bc,.int .i64 0]) ho e4 (by simp[execOp,e3,resolve,invoke,Deferred.ofValue,r48,ev,evf,V12,V13]) ((mdmust_yes _ _ _ w).mono ?_)
   rintro e W' ⟨rfl,hq⟩
   refine⟨_,rfl,?_⟩
   rw[e2]
   exact go rfl (by decide) (by rw[hq];exact Below.refl _ _) ⟨b,bc,rfl,by rw[hq];exact f12,z12⟩
  ·obtain⟨o',e1',e2,e3,e4,e5⟩:=o15
   obtain rfl:=Option.some.inj (ho.symm.trans e1')
   have dp:=dPo e5 hdep
   obtain⟨b,bc,V14,f14,z14⟩:∃ b bc,a.tmps.getD 103 undef=.slice b d0 bc∧Reads .i64 w b d0 O∧d0≤bc∧(∀ x,b=some x→b1≤x.block):=hI.val 14 103 (by decide) rfl (dp 14 (by decide))
   exact wVa (v:=.slice b d0 bc) (w':=w) ho e4 (by simp[execOp,e3,ev,V14]) (by rw[e2];exact go rfl (by decide) (Below.refl _ _) ⟨b,bc,rfl,f14,z14⟩)
 ·intro l a w hall hI
  have all:∀ j,j<16→l j=true:=fun j hj=>hall j (by rw[hsz];exact hj)
  obtain⟨b,bc,v15,f15,z15⟩:∃ b bc,a.tmps.getD 22 undef=.slice b d0 bc∧Reads .i64 w b d0 O∧d0≤bc∧(∀ x,b=some x→b1≤x.block):=hI.val 15 22 (by decide) rfl (all 15 (by decide))
  exact fin a w b bc hI.size hI.defers hI.kept v15 f15 z15.1 z15.2 hI.world.1
end
section
structure TwoG (B:Nat) (w:World) (v v2:Value) (k k2:Nat) (A A2:Nat→Option Addr) (C C2:Nat→Nat) (R R2:Nat→List Int):Prop where
 g1:OwnGrid B w v k A C R
 g2:OwnGrid B w v2 k2 A2 C2 R2
 ap:∀ h,v.ownBlock=some h→∀ h2,v2.ownBlock=some h2→h≠h2
 d1:∀ r,r<k→0<(R r).length→∀ x,A r=some x→∀ h,v2.ownBlock=some h→x.block≠h
 d2:∀ r,r<k2→0<(R2 r).length→∀ x,A2 r=some x→∀ h,v.ownBlock=some h→x.block≠h
section
variable {B:Nat}{w:World}{v v2:Value}{k k2:Nat}{A A2:Nat→Option Addr}{C C2:Nat→Nat}{R R2:Nat→List Int}
theorem TwoG.swap (h:TwoG B w v v2 k k2 A A2 C C2 R R2):TwoG B w v2 v k2 k A2 A C2 C R2 R:=⟨h.g2,h.g1,fun a ha b hb e=>h.ap b hb a ha e.symm,h.d2,h.d1⟩
theorem TwoG.below {w':World}(h:TwoG B w v v2 k k2 A A2 C C2 R R2)(hb:Below w.heap.size w w'):TwoG B w' v v2 k k2 A A2 C C2 R R2:=⟨h.g1.below hb,h.g2.below hb,h.ap,h.d1,h.d2⟩
theorem TwoG.none_ (B:Nat)(w:World)(A A2:Nat→Option Addr)(C C2:Nat→Nat)(R R2:Nat→List Int):TwoG B w (.slice none 0 0) (.slice none 0 0) 0 0 A A2 C C2 R R2 :=
 ⟨OwnGrid.nil _ _ _ _ _,OwnGrid.nil _ _ _ _ _,(fun h e=>by cases e),(fun r hr=>by omega),(fun r hr=>by omega)⟩
theorem grid_lt {w:World}{v:Value}{k:Nat}(h:OwnGrid B w v k A C R){r:Nat}(hr:r<k)(h0:0<(R r).length){x:Addr}(hx:A r=some x):x.block<w.heap.size:=by
 have:=World.block_lt_of_cell? w _ ((h.row r hr).cell x hx 0 h0)
 simpa [Addr.add] using this
theorem TwoG.app {w':World}{v':Value}(h:TwoG B w v v2 k k2 A A2 C C2 R R2){p:Option Addr}{c d:Nat}(hlen:(R k).length=d)(rt:Reads .i64 w p d (R k))
  (f1:∀ x,p=some x→∀ g,v.ownBlock=some g→x.block≠g) (f2:∀ x,p=some x→∀ g,v2.ownBlock=some g→x.block≠g)
  (ho:w'.ownsRow B 34 1 v' (k+1) (heads A C R k++[.slice p d c])) (hg:w.grownBy w' v.ownBlock) (hs:Stays w v v') :
  TwoG B w' v' v2 (k+1) k2 (fun r=>if r=k then p else A r) A2 (fun r=>if r=k then c else C r) C2 R R2:=by
 have g1':=h.g1.app (p:=p) (c:=c) (V:=.slice p d c) (by rw[hlen]) (by rw[hlen];exact rt) (fun _=>f1) ho hg hs
 have g2':OwnGrid B w' v2 k2 A2 C2 R2:=by
  cases e:v.ownBlock with
  | none =>
   rw[e] at hg
   exact⟨h.g2.own.kept hg (by cases e2:v2.ownBlock with|none=>exact .inl rfl|some q=>exact .inr (fun q=>by cases q)),fun r hr=>(h.g2.row r hr).grown hg (fun _ _ _ _ q=>by cases q),h.g2.apart⟩
  | some q =>
   rw[e] at hg
   exact h.g2.grown hg (fun q2 hq2=>fun e'=>h.ap q e q2 hq2 e'.symm) (fun r hr h0 x hx=>h.d2 r hr h0 x hx q e)
 refine⟨g1',g2',fun a ha b hb=>?_,fun r hr h0 x hx b hb=>?_,fun r hr h0 x hx a ha=>?_⟩
 ·rcases hs with e|e
  ·exact h.ap a (e ▸ ha) b hb
  ·have h1:=e a ha
   have h2:=(h.g2.own.lt b hb).2
   omega
 ·by_cases e:r=k
  ·simp only[e,if_true] at hx
   exact f2 x hx b hb
  ·simp only[if_neg e] at hx
   exact h.d1 r (by omega) h0 x hx b hb
 ·rcases hs with e|e
  ·exact h.d2 r hr h0 x hx a (e ▸ ha)
  ·have h1:=e a ha
   have h2:=grid_lt h.g2 hr h0 hx
   omega
end
theorem Grid.none_ (w:World)(a:Option Addr)(A:Nat→Option Addr)(C:Nat→Nat)(R:Nat→List Int):Grid w a 0 A C R:=⟨by omega,fun h=>by omega,fun x hx r hr=>by omega,fun r hr=>by omega⟩
theorem Grid.cut {w:World}{x:Addr}{n:Nat}{A:Nat→Option Addr}{C:Nat→Nat}{R:Nat→List Int}(h:Grid w (some x) n A C R)(s m:Nat)(hm:s+m≤n):Grid w (some (x.add s)) m (fun r=>A (s+r)) (fun r=>C (s+r)) (fun r=>R (s+r)) :=
 ⟨by have:=h.max;omega,fun _=>⟨_,rfl⟩,fun y hy r hr=>by obtain rfl:=Option.some.inj hy;rw[Addr.add_add];exact h.cell x rfl (s+r) (by omega),fun r hr=>h.row (s+r) (by omega)⟩
end
end Go.Proofs.YthliomlmhfjhnaaGreat

/- Texts put together. -/
import Derived.Test.YthliomlmhfjhnaaGreatZp30
import Derived.Laws.StructEq
namespace Go.Proofs.YthliomlmhfjhnaaGreat
set_option maxRecDepth 20000
set_option maxHeartbeats 16000000
open Go.ChangeShapes Go.WideShapes Go.ChangeAt Go.RowKit
set_option linter.unusedVariables false
set_option linter.unusedSimpArgs false
theorem Qd7 {w:World}{cb:Nat}{d h l v u x t n:Int}(q:Blk 23 w cb (c8 d h l v u x t n)):(Instr.fieldAt 23 (Pt cb) 4).run Tryz.prog w=.ok (.pointer (some ⟨cb,4,none⟩)) w∧(Instr.loadAt 3 (.pointer (some ⟨cb,4,none⟩))).run Tryz.prog w=.ok (I4 u) w:=by
 obtain⟨c0,c1,c2,c3,c4,c5,c6,c7⟩:=q.cfg
 constructor
 ·go_simp
 ·go_simp
theorem Qcw {w:World}{p:Addr}{a:Option Addr}{n c:Nat}(h:w.cell? p=some (.slice a n c)):(Instr.loadAt 63 (.pointer (some p))).run Tryz.prog w=.ok (.slice a n c) w:=by
 go_simp
theorem Qet {w:World}{p:Addr}{u:Value}{a:Option Addr}{n c:Nat}(h:w.cell? p=some u)(hf:w.frozen? p=false):(Instr.storeAt 63 (.pointer (some p)) (.slice a n c)).run Tryz.prog w=.ok () (w.setCell p (.slice a n c)):=by
 go_simp
theorem Qex (w:World)(a:Option Addr)(n c:Nat):(Instr.buildSlice 63 1 #[(0,.slice a n c)]).run Tryz.prog w=.ok (.slice (some ⟨w.heap.size,0,none⟩) 1 1) (w.alloc (.cells #[.slice a n c] 24)):=by
 go_simp
def Qas (t:TypeId)(r:Option Nat)(w w':World):Prop:=∀ (b:Nat) (cur:Array Value) (fz:Nat × Nat),some b≠r→w.heap[b]? = some (Obj.cells cur t fz)→w'.heap[b]? = some (Obj.cells cur t fz)
theorem Qas.then_ {t:TypeId}{r:Option Nat}{w w' w'':World}(h:Qas t r w w')(k:Keeps t w' w''):Qas t r w w'':=fun b cur fz hb e=>k b cur fz (h b cur fz hb e)
theorem Qas.trans {t:TypeId}{r:Option Nat}{w w' w'':World}(h:Qas t r w w')(k:Qas t r w' w''):Qas t r w w'':=fun b cur fz hb e=>k b cur fz hb (h b cur fz hb e)
theorem Qas.of_grown {t:TypeId}{r:Option Nat}{w w':World}(h:w.grownBy w' r):Qas t r w w':=fun b cur fz hb e=>(h.block b (Array.getElem?_eq_some_iff.1 e).1 hb).trans e
theorem Qas.own {t:TypeId}{r:Option Nat}{w w':World}{B n sz:Nat}{v:Value}{xs:List Value}(h:Qas t r w w')(hv:∀ g,v.ownBlock=some g→r≠some g)(ho:w.ownsRow B t sz v n xs):w'.ownsRow B t sz v n xs:=by
 refine⟨ho.1,?_⟩
 rcases ho.2 with h2|⟨g,cap,cur,e,hg,hh,r'⟩
 ·exact .inl h2
 ·exact .inr ⟨g,cap,cur,e,hg,h g cur (0,0) (fun k=>hv g (by rw[e];rfl) k.symm) hh,r'⟩
theorem Only.grown {xb:Nat}{w0 w w':World}{r:Option Nat}(h:Only xb w0 w)(k:w.grownBy w' r)(hr:∀ g,r=some g→w0.heap.size≤g):Only xb w0 w' :=
 ⟨k.os.trans h.os,k.tape.trans h.tape,k.output.trans h.output,Nat.le_trans h.size k.size,fun i hi hn=>(k.block i (Nat.lt_of_lt_of_le hi h.size) (fun e=>by have:=hr i e.symm;omega)).trans (h.block i hi hn)⟩
theorem TG.slice {B:Nat}{w:World}{v:Value}{k:Nat}{R:Nat→SL}{Z:Nat→List Int}(h:TG B w v k R Z):∃ a n c,v=.slice a n c:=by
 rcases h.own.2 with⟨e,_⟩|⟨g,cap,cur,e,_⟩
 ·exact⟨_,_,_,e⟩
 ·exact⟨_,_,_,e⟩
theorem QaH.grown {w w':World}{xb sb N T:Nat}{ws:List Int}{r:Option Nat}(h:QaH w xb sb N ws T)(o:w.grownBy w' r)(h1:r≠some xb)(h2:r≠some sb):QaH w' xb sb N ws T:=by
 obtain⟨y,c,q,e,rd,l⟩:=h
 refine⟨y,c,(o.block xb q.lt (fun k=>h1 k.symm)).trans q,e,⟨rd.len,rd.max,rd.wf,rd.some_,fun x hx i hi=>?_⟩,l⟩
 have c:=rd.cell x hx i hi
 have eb:(x.add i).block=x.block:=by unfold Addr.add;split<;>rfl
 have hlt:=World.block_lt_of_cell? _ _ c
 obtain rfl:=Option.some.inj hx
 exact (World.cell?_of_block (o.block _ hlt (fun k=>h2 (by rw[←k,eb,e])))).trans c
def OB (V:Value)(w0:World)(v':Value):Prop:=v'.ownBlock=V.ownBlock∨∃ b,w0.heap.size≤b∧v'.ownBlock=some b
structure NetR (xb sb lb f N K k B:Nat) (ws:List Int) (cnt:Nat→Nat) (cs:Array Value) (V:Value) (R:Nat→SL) (Z:Nat→List Int) (WR w0:World) (l:Nat→Bool) (w:World):Prop where
 only:Only xb WR w
 cut:QaH w xb sb N ws (offs cnt (if l 7=true then K+1 else K))
 tg:l 9=false→TG B w V k R Z
 pre:l 11=false→Blk 65 w lb cs
 post:l 11=true→∃ v' S,Blk 65 w lb (cs.setIfInBounds f v')∧TG B w v' (k+1) (upd R k S) Z∧OB V w0 v'
 k46:Keeps 73 w0 w
 k26:Qas 24 V.ownBlock w0 w
 d11:l 11=true→l 9=true
 d9:l 9=true→l 1=true
 size:w0.heap.size≤w.heap.size
theorem NetR.step {xb sb lb f N K k B:Nat}{ws:List Int}{cnt:Nat→Nat}{cs:Array Value}{V:Value}{R:Nat→SL}{Z:Nat→List Int}{WR w0:World}{l l':Nat→Bool}{w w':World}(h:NetR xb sb lb f N K k B ws cnt cs V R Z WR w0 l w)(k46:Keeps 73 w w')(k26:Keeps 24 w w')(k59:Keeps 65 w w')(o:Only xb w w')
  (hc:QaH w' xb sb N ws (offs cnt (if l' 7=true then K+1 else K))) (e9:l' 9=l 9) (e11:l' 11=l 11) (e1:l 1=true→l' 1=true):NetR xb sb lb f N K k B ws cnt cs V R Z WR w0 l' w' :=
 ⟨h.only.trans o,hc,fun h9=>(h.tg (by rw[←e9];exact h9)).step k46 k26,fun h11=>k59.blk (h.pre (by rw[←e11];exact h11)),fun h11=>by
  obtain⟨v',S,q1,q2,q3⟩:=h.post (by rw[←e11];exact h11)
  exact⟨v',S,k59.blk q1,q2.step k46 k26,q3⟩,h.k46.trans k46,h.k26.then_ k26,fun h11=>by rw[e9];exact h.d11 (by rw[←e11];exact h11),fun h9=>e1 (h.d9 (by rw[←e9];exact h9)),Nat.le_trans h.size o.size⟩
def netD (b i:Nat):Option Nat:=if i<11 then some (b+i) else none
theorem QiO (b:Nat):∀ i,i<12→∀ j,j<12→∀ d,netD b i=some d→netD b j=some d→i=j:=by
 intro i hi j hj d h1 h2
 unfold netD at h1 h2
 split at h1
 ·split at h2
  ·simp at h1 h2;omega
  ·cases h2
 ·cases h1
theorem Qd9 {b s:Nat}(h:s<b)(i:Nat):netD b i≠some s:=by
 intro e
 unfold netD at e
 split at e
 ·simp at e;omega
 ·cases e
def QfV (d u UD:Int)(xb cb lb f k B:Nat)(V:Value)(R:Nat→SL)(Z:Nat→List Int)(w0:World)(i:Nat)(q:Value)(w:World):Prop:=match i with
 | 0=>q=.pointer (some ⟨lb,f,none⟩)
 | 1=>q=V
 | 2=>q=Pt xb
 | 3=>q=.pointer (some ⟨cb,4,none⟩)
 | 4=>q=I4 u
 | 5=>q=I4 d
 | 6=>q=I4 UD
 | 7=>∃ S:SL,q=S.w∧TS B w S (Z k)
 | 8=>∃ (g:Nat) (S:SL),q=.slice (some ⟨g,0,none⟩) 1 1∧w0.heap.size≤g∧Blk 24 w g #[S.v]∧TS B w S (Z k)
 | 9=>∃ S:SL,TG B w q (k+1) (upd R k S) Z∧OB V w0 q
 | 10=>q=.pointer (some ⟨lb,f,none⟩)
 | _=>True
theorem QdC {d u UD:Int}{xb cb lb f k B:Nat}{V:Value}{R:Nat→SL}{Z:Nat→List Int}{w0:World}{i:Nat}{q:Value}{w w':World}(h:QfV d u UD xb cb lb f k B V R Z w0 i q w)(k46:Keeps 73 w w')(k26:Keeps 24 w w'):QfV d u UD xb cb lb f k B V R Z w0 i q w':=by
 unfold QfV at h ⊢
 split
 ·exact h
 ·exact h
 ·exact h
 ·exact h
 ·exact h
 ·exact h
 ·exact h
 ·obtain⟨S,e1,e2⟩:=h
  exact⟨S,e1,e2.step k46⟩
 ·obtain⟨g,S,e1,e2,e3,e4⟩:=h
  exact⟨g,S,e1,e2,k26.blk e3,e4.step k46⟩
 ·obtain⟨S,e1,e2⟩:=h
  exact⟨S,e1.step k46 k26,e2⟩
 ·exact h
 ·trivial
theorem QeO {id:Nat}{ops:Array Oper}{Q:Exit→Act→World→Prop}{a0:Act}{w0:World}(d h l v u x t n:Int)(b f xb cb sb lb N K k B:Nat)(ws:List Int)(cnt:Nat→Nat)(cs:Array Value)(Va:Option Addr)(Vn Vc:Nat)(R:Nat→SL)(Z:Nat→List Int)(WR:World)(hB:lowB ops=true)(hsz:ops.size=12)
  (o0:OpAt ops 0 (some b) (.fieldAddr 65 (.tmp 10) f) []) (o1:OpAt ops 1 (some (b+1)) (.load 63 (.tmp b)) [0]) (o2:OpAt ops 2 (some (b+2)) (.move (.tmp 7)) []) (o3:OpAt ops 3 (some (b+3)) (.fieldAddr 23 (.tmp 2) 4) []) (o4:OpAt ops 4 (some (b+4)) (.load 3 (.tmp (b+3))) [3]) (o5:OpAt ops 5 (some (b+5)) (.move (.tmp 6)) []) (o6:OpAt ops 6 (some (b+6)) (.binOp .mul 3 (.tmp (b+4)) (.tmp (b+5)) 3) [4,5])
  (o7:OpAt ops 7 (some (b+7)) (.call { callee:=.value (.func 81),args:=#[.tmp (b+2),.tmp (b+6)],argTypes:=#[111,3] }) [2,6]) (o8:OpAt ops 8 (some (b+8)) (.buildSlice 63 1 #[(0,.tmp (b+7))]) [7]) (o9:OpAt ops 9 (some (b+9)) (.call { callee:=.builtin .append,args:=#[.tmp (b+1),.tmp (b+8)],argTypes:=#[63,63] }) [1,8])
  (o10:OpAt ops 10 (some (b+10)) (.fieldAddr 65 (.tmp 10) f) []) (o11:OpAt ops 11 none (.store 63 (.tmp (b+10)) (.tmp (b+9))) [9,10])
  (hmul:∀ w,(binOp .mul 3 (I4 u) (I4 d)).run Tryz.prog w=.ok (I4 (cnt K:Int)) w) (hb10:10<b) (hs:b+11≤a0.tmps.size) (hf:f<9) (q:Blk 23 WR cb (c8 d h l v u x t n)) (h2:a0.tmps.getD 2 undef=Pt cb) (h7:a0.tmps.getD 7 undef=Pt xb) (h6:a0.tmps.getD 6 undef=I4 d) (h10:a0.tmps.getD 10 undef=Pt lb)
  (hWR:Only xb WR w0) (hc:QaH w0 xb sb N ws (offs cnt K)) (hfit:offs cnt (K+1)≤N) (hN:N≤100000) (hsb:sb≠xb) (hcx:cb≠xb) (hxl:xb<WR.heap.size) (hsl:sb<WR.heap.size) (hlb:WR.heap.size≤lb) (hBW:WR.heap.size≤B) (hBl:B≤w0.heap.size)
  (ql:Blk 65 w0 lb cs) (hcs:cs[f]? = some (.slice Va Vn Vc)) (hT:TG B w0 (.slice Va Vn Vc) k R Z) (hZ:Z k=seg cnt ws K) (hk:k≤1000)
  (fin:∀ a w v' S,a.tmps.size=a0.tmps.size→a.defers=a0.defers→(∀ s,s<b∨b+11≤s→a.tmps.getD s undef=a0.tmps.getD s undef)→Only xb WR w→QaH w xb sb N ws (offs cnt (K+1))→Blk 65 w lb (cs.setIfInBounds f v')→TG B w v' (k+1) (upd R k S) Z→OB (.slice Va Vn Vc) w0 v'→Keeps 73 w0 w→Qas 24 (Value.slice Va Vn Vc).ownBlock w0 w→w0.heap.size≤w.heap.size→Q .normal a w):(Code.region id ops true).wp Tryz.prog Q a0 w0:=by
 have hrun:∀ args w,(callFunc 81 args).run Tryz.prog w=.ok (.enter 81 args) w:=QeZ Tryz.func81 (by kernel_rfl) rfl
 obtain⟨V,eV⟩:∃ V:Value,Value.slice Va Vn Vc=V:=⟨_,rfl⟩
 have hVlt:∀ g,V.ownBlock=some g→B≤g∧g<w0.heap.size:=fun g hg=>hT.own.lt g (by rw[eV];exact hg)
 refine QaZ (by kernel_rfl) hB (Inv 12 (netD b) a0 (fun l _ w=>NetR xb sb lb f N K k B ws cnt cs V R Z WR w0 l w) (fun _=>QfV d u (cnt K:Int) xb cb lb f k B V R Z w0)) (Inv.start ⟨hWR.drew_,by obtain⟨y,c,q1,q2,q3,q4⟩:=hc;exact⟨y,c,q1,q2,⟨q3.len,q3.max,q3.wf,q3.some_,q3.cell⟩,q4⟩,fun _=>by rw[←eV];exact hT.step (fun _ _ _ e=>e) (fun _ _ _ e=>e),fun _=>ql,(fun e=>by cases e),fun _ _ _ e=>e,fun _ _ _ _ e=>e,(fun e=>by cases e),(fun e=>by cases e),Nat.le_refl _⟩) ?_ ?_
 ·intro l' i o a w ho hl hdep hI
  have hi:i<12:=by rw[←hsz];exact (Array.getElem?_eq_some_iff.1 ho).1
  have hR:=hI.world
  have hsB:=hR.size
  have inj:∀ d,netD b i=some d→∀ j d',j<12→netD b j=some d'→j≠i→d'≠d:=fun d hd j d' hj hd' hne e=>hne (QiO b j hj i hi d (by rw[hd',e]) hd)
  have ev:∀ (s:Nat),a.eval (.tmp s)=a.tmps.getD s undef:=fun _=>rfl
  have ke:∀ s,s<b→a.eval (.tmp s)=a0.tmps.getD s undef:=fun s hs=>hI.kept s fun i _=>Qd9 hs i
  have qc:Blk 23 w cb (c8 d h l v u x t n):=q.only hR.only hcx
  have l9:i≠9→(l' 9 || 9==i)=l' 9:=fun h=>by rw[show (9==i)=false by simp;omega,Bool.or_false]
  have l7:i≠7→(l' 7 || 7==i)=l' 7:=fun h=>by rw[show (7==i)=false by simp;omega,Bool.or_false]
  have l11:i≠11→(l' 11 || 11==i)=l' 11:=fun h=>by rw[show (11==i)=false by simp;omega,Bool.or_false]
  have newW:∀ {d' v' w'},netD b i=some d'→d'<b+11→i≠7→i≠9→i≠11→Bw w w'→QfV d u (cnt K:Int) xb cb lb f k B V R Z w0 i v' w'→Inv 12 (netD b) a0 (fun l _ w=>NetR xb sb lb f N K k B ws cnt cs V R Z WR w0 l w) (fun _=>QfV d u (cnt K:Int) xb cb lb f k B V R Z w0) (fun j=>l' j || j==i) (a.put (some d') v') w':=fun hD hd n7 n9 n11 hw hF=>hI.put hi hD (by omega) (inj _ hD) (hR.step (Keeps.of_below hw) (Keeps.of_below hw) (Keeps.of_below hw) (Only.of_below hw) (by simp only[l7 n7];exact hR.cut.below hw) (l9 n9) (l11 n11) (fun h=>by simp[h])) hF fun j u _ _ _ hf=>QdC hf (Keeps.of_below hw) (Keeps.of_below hw)
  have pure_:∀ {d' v'},netD b i=some d'→d'<b+11→i≠7→i≠9→i≠11→QfV d u (cnt K:Int) xb cb lb f k B V R Z w0 i v' w→Inv 12 (netD b) a0 (fun l _ w=>NetR xb sb lb f N K k B ws cnt cs V R Z WR w0 l w) (fun _=>QfV d u (cnt K:Int) xb cb lb f k B V R Z w0) (fun j=>l' j || j==i) (a.put (some d') v') w:=fun hD hd n7 n9 n11 hF=>newW hD hd n7 n9 n11 bR hF
  have VAL:∀ j,j<11→l' j=true→QfV d u (cnt K:Int) xb cb lb f k B V R Z w0 j (a.tmps.getD (b+j) undef) w:=fun j hj h=>hI.val j (b+j) (by omega) (by unfold netD;rw[if_pos hj]) h
  rcases l12 (show i<12 by omega) with rfl|rfl|rfl|rfl|rfl|rfl|rfl|rfl|rfl|rfl|rfl|rfl
  ·obtain⟨o',e1,e2,e3,e4,e5⟩:=o0
   obtain rfl:=sOp ho e1
   have dp:=Qao (ops:=ops) e5 hdep
   refine wVa (v:=.pointer (some ⟨lb,f,none⟩)) (w':=w) ho e4 ?_ (by rw[e2];exact pure_ rfl (by omega) (by decide) (by decide) (by decide) rfl)
   simp[execOp,e3,ke 10 (by omega),h10,Qax lb f hf]
  ·obtain⟨o',e1,e2,e3,e4,e5⟩:=o1
   obtain rfl:=sOp ho e1
   have dp:=Qao (ops:=ops) e5 hdep
   have ev1:a.tmps.getD (b+0) undef=.pointer (some ⟨lb,f,none⟩):=VAL 0 (by decide) (dp 0 (by decide))
   have n11:l' 11=false:=by
    cases h11:l' 11 with
    | false=>rfl
    | true=>have:=hR.d9 (hR.d11 h11);rw[hl] at this;cases this
   have cV:=(hR.pre n11).cell f hcs
   refine wVa (v:=.slice Va Vn Vc) (w':=w) ho e4 ?_ (by rw[e2];exact pure_ rfl (by omega) (by decide) (by decide) (by decide) eV)
   simp only[Nat.add_zero] at ev1
   simp[execOp,e3,ev,ev1,Qcw cV]
  ·obtain⟨o',e1,e2,e3,e4,e5⟩:=o2
   obtain rfl:=sOp ho e1
   have dp:=Qao (ops:=ops) e5 hdep
   refine wVa (v:=Pt xb) (w':=w) ho e4 ?_ (by rw[e2];exact pure_ rfl (by omega) (by decide) (by decide) (by decide) rfl)
   simp[execOp,e3,ke 7 (by omega),h7]
  ·obtain⟨o',e1,e2,e3,e4,e5⟩:=o3
   obtain rfl:=sOp ho e1
   have dp:=Qao (ops:=ops) e5 hdep
   refine wVa (v:=.pointer (some ⟨cb,4,none⟩)) (w':=w) ho e4 ?_ (by rw[e2];exact pure_ rfl (by omega) (by decide) (by decide) (by decide) rfl)
   simp[execOp,e3,ke 2 (by omega),h2,(Qd7 qc).1]
  ·obtain⟨o',e1,e2,e3,e4,e5⟩:=o4
   obtain rfl:=sOp ho e1
   have dp:=Qao (ops:=ops) e5 hdep
   have ev1:a.tmps.getD (b+3) undef=.pointer (some ⟨cb,4,none⟩):=VAL 3 (by decide) (dp 3 (by decide))
   refine wVa (v:=I4 u) (w':=w) ho e4 ?_ (by rw[e2];exact pure_ rfl (by omega) (by decide) (by decide) (by decide) rfl)
   simp[execOp,e3,ev,ev1,(Qd7 qc).2]
  ·obtain⟨o',e1,e2,e3,e4,e5⟩:=o5
   obtain rfl:=sOp ho e1
   have dp:=Qao (ops:=ops) e5 hdep
   refine wVa (v:=I4 d) (w':=w) ho e4 ?_ (by rw[e2];exact pure_ rfl (by omega) (by decide) (by decide) (by decide) rfl)
   simp[execOp,e3,ke 6 (by omega),h6]
  ·obtain⟨o',e1,e2,e3,e4,e5⟩:=o6
   obtain rfl:=sOp ho e1
   have dp:=Qao (ops:=ops) e5 hdep
   have ev1:a.tmps.getD (b+4) undef=I4 u:=VAL 4 (by decide) (dp 4 (by decide))
   have ev2:a.tmps.getD (b+5) undef=I4 d:=VAL 5 (by decide) (dp 5 (by decide))
   refine wVa (v:=I4 (cnt K:Int)) (w':=w) ho e4 ?_ (by rw[e2];exact pure_ rfl (by omega) (by decide) (by decide) (by decide) rfl)
   simp[execOp,e3,ev,ev1,ev2,hmul,eqGuard]
  ·obtain⟨o',e1,e2,e3,e4,e5⟩:=o7
   obtain rfl:=sOp ho e1
   have dp:=Qao (ops:=ops) e5 hdep
   have ev1:a.tmps.getD (b+2) undef=Pt xb:=VAL 2 (by decide) (dp 2 (by decide))
   have ev2:a.tmps.getD (b+6) undef=I4 (cnt K:Int):=VAL 6 (by decide) (dp 6 (by decide))
   have hcut':QaH w xb sb N ws (offs cnt K):=by have:=hR.cut;rw[hl] at this;exact this
   refine wCa (f:=81) (args:=#[Pt xb,I4 (cnt K:Int)]) ho e4 ?_ ((Qc9 (k:=K) hcut' hfit hN hsb).mono fun e w' hh=>?_)
   ·simp[execOp,e3,resolve,invoke,ev,ev1,ev2,Deferred.ofValue,hrun,show a.eval (.func 81)=.func (.func 81) #[] #[] from rfl]
   ·obtain⟨s,g1,g2,g3,g4⟩:=hh
    refine⟨_,g1,?_⟩
    rw[e2]
    refine hI.put hi rfl (by omega) (inj _ rfl) (hR.step (hcut'.keeps g4 (by decide)) (hcut'.keeps g4 (by decide)) (hcut'.keeps g4 (by decide)) g4 (by simpa using g3) (l9 (by decide)) (l11 (by decide)) (fun h=>by simp[h])) ⟨s,rfl,?_⟩ fun j u' _ _ _ hf=>QdC hf (hcut'.keeps g4 (by decide)) (hcut'.keeps g4 (by decide))
    rw[hZ]
    exact g2.le (Nat.le_trans hBl hsB)
  ·obtain⟨o',e1,e2,e3,e4,e5⟩:=o8
   obtain rfl:=sOp ho e1
   have dp:=Qao (ops:=ops) e5 hdep
   obtain⟨S,ev1,ts⟩:=VAL 7 (by decide) (dp 7 (by decide))
   refine wVa (v:=.slice (some ⟨w.heap.size,0,none⟩) 1 1) (w':=w.alloc (.cells #[S.w] 24)) ho e4 ?_ (by rw[e2];exact newW rfl (by omega) (by decide) (by decide) (by decide) (bNw bR _) ⟨_,S,rfl,hsB,Blk.new 24 w _,ts.below (bNw bR _)⟩)
   simp[execOp,e3,ev,ev1,Qex]
  ·obtain⟨o',e1,e2,e3,e4,e5⟩:=o9
   obtain rfl:=sOp ho e1
   have dp:=Qao (ops:=ops) e5 hdep
   have ev1:a.tmps.getD (b+1) undef=V:=VAL 1 (by decide) (dp 1 (by decide))
   obtain⟨g,S,ev2,hgB,hgq,ts⟩:=VAL 8 (by decide) (dp 8 (by decide))
   have n11:l' 11=false:=by
    cases h11:l' 11 with
    | false=>rfl
    | true=>have:=hR.d11 h11;rw[hl] at this;cases this
   have tg:=hR.tg hl
   obtain⟨i0,hi0,hz0,hz1,hz2⟩:=i24'
   obtain⟨v',w',hrn,own',hgr,_,hob⟩:=run_append_own_at (P:=Tryz.prog) w B 63 o.type 24 i0 nilS 1 24 Tryz.underlying63 hi0 hz0 hz1 hz2 rfl (by decide) V k _ tg.own ⟨g,0,none⟩ 1 1 [S.v] rfl (fun j u hj=>by
    match j,hj with
    | 0,hj=>simp at hj;subst hj;simpa [Addr.add] using hgq.cell 0 rfl) (fun u hu=>by simp at hu;subst hu;rfl) (by unfold maxLen;omega) (by omega) (Nat.le_trans hBl hsB)
   have k46:Keeps 73 w w':=Keeps.of_own hgr tg.own (by decide)
   have k59:Keeps 65 w w':=Keeps.of_own hgr tg.own (by decide)
   have kb:Qas 24 V.ownBlock w w':=Qas.of_grown hgr
   have hOB:OB V w0 v':=by
    rcases hob with h|h
    ·exact .inl h
    ·exact .inr ⟨_,hsB,h⟩
   have hTG:TG B w' v' (k+1) (upd R k S) Z:=by
    refine⟨?_,fun j hj=>?_⟩
    ·rw[QcV,Qaz,Qcp (R':=R) (fun j hj=>Qal R k S (by omega))]
     exact own'
    ·by_cases e:j=k
     ·subst e
      rw[Qaz]
      exact ts.step k46
     ·rw[Qal R k S e]
      exact (tg.row j (by omega)).step k46
   refine wVa (v:=v') (w':=w') ho e4 ?_ ?_
   ·simp only[execOp,e3,resolve,invoke,builtin,Sem.run_bind,Sem.run_pure,Result.andThen_ok,List.map_toArray,List.map_cons,List.map_nil,ev,ev1,ev2,hrn]
   ·rw[e2]
    refine hI.put hi rfl (by omega) (inj _ rfl) ⟨hR.only.grown hgr (fun g hg=>Nat.le_trans hBW (hVlt g hg).1),?_,(fun h=>by simp at h),fun _=>k59.blk (hR.pre n11),(fun h=>by simp[n11] at h),hR.k46.trans k46,hR.k26.trans kb,(fun h=>by simp),(fun h=>by simp[dp 1 (by decide)]),Nat.le_trans hsB hgr.size⟩ ⟨S,hTG,hOB⟩ fun j u' hj hlj hne hf=>?_
    ·simp only[l7 (show (9:Nat)≠7 by decide)]
     exact hR.cut.grown hgr (fun e=>by have:=(hVlt _ e).1;omega) (fun e=>by have:=(hVlt _ e).1;omega)
    ·rcases (show j=0∨j=1∨j=2∨j=3∨j=4∨j=5∨j=6∨j=7∨j=8∨j=10∨j=11 by omega) with rfl|rfl|rfl|rfl|rfl|rfl|rfl|rfl|rfl|rfl|rfl
     ·exact hf
     ·exact hf
     ·exact hf
     ·exact hf
     ·exact hf
     ·exact hf
     ·exact hf
     ·obtain⟨S',f1,f2⟩:=hf
      exact⟨S',f1,f2.step k46⟩
     ·obtain⟨g',S',f1,f2,f3,f4⟩:=hf
      exact⟨g',S',f1,f2,kb g' _ (0,0) (fun e=>by have:=(hVlt _ e.symm).2;omega) f3,f4.step k46⟩
     ·exact hf
     ·trivial
  ·obtain⟨o',e1,e2,e3,e4,e5⟩:=o10
   obtain rfl:=sOp ho e1
   have dp:=Qao (ops:=ops) e5 hdep
   refine wVa (v:=.pointer (some ⟨lb,f,none⟩)) (w':=w) ho e4 ?_ (by rw[e2];exact pure_ rfl (by omega) (by decide) (by decide) (by decide) rfl)
   simp[execOp,e3,ke 10 (by omega),h10,Qax lb f hf]
  ·obtain⟨o',e1,e2,e3,e4,e5⟩:=o11
   obtain rfl:=sOp ho e1
   have dp:=Qao (ops:=ops) e5 hdep
   obtain⟨S,tg,hOB⟩:=VAL 9 (by decide) (dp 9 (by decide))
   have ev2:a.tmps.getD (b+10) undef=.pointer (some ⟨lb,f,none⟩):=VAL 10 (by decide) (dp 10 (by decide))
   obtain⟨sa,sn,sc,ev1⟩:=tg.slice
   have qp:=hR.pre hl
   have hrn:=Qet (a:=sa) (n:=sn) (c:=sc) (qp.cell f hcs) (qp.open_ f)
   have on:Only lb w (w.setCell ⟨lb,f,none⟩ (.slice sa sn sc)):=Only.set _ _ _ _
   have k46:Keeps 73 w (w.setCell ⟨lb,f,none⟩ (.slice sa sn sc)):=Keeps.of_only on qp (by decide)
   have k26:Keeps 24 w (w.setCell ⟨lb,f,none⟩ (.slice sa sn sc)):=Keeps.of_only on qp (by decide)
   refine wSk (w':=w.setCell ⟨lb,f,none⟩ (.slice sa sn sc)) ho e4 ?_ ?_
   ·simp[execOp,e3,ev,ev1,ev2,hrn]
   ·rw[e2]
    refine hI.none_ rfl ⟨hR.only.new hlb on,?_,(fun h=>by simp[dp 9 (by decide)] at h),(fun h=>by simp at h),fun _=>⟨_,S,qp.set f (.slice sa sn sc),?_,?_⟩,hR.k46.trans k46,hR.k26.then_ k26,(fun h=>by simp[dp 9 (by decide)]),(fun h=>by simp[hR.d9 (dp 9 (by decide))]),Nat.le_trans hsB on.size⟩ fun j u' hj hlj hne hf=>QdC hf k46 k26
    ·simp only[l7 (show (11:Nat)≠7 by decide)]
     exact hR.cut.only on (by omega) (by omega)
    ·rw[ev1] at tg
     exact tg.step k46 k26
    ·rw[ev1] at hOB
     exact hOB
 ·intro l' a w hall hI
  have hR:=hI.world
  obtain⟨v',S,q1,q2,q3⟩:=hR.post (hall 11 (by omega))
  have hcut:=hR.cut
  rw[if_pos (hall 7 (by omega))] at hcut
  exact fin a w v' S hI.size hI.defers (fun s hs'=>hI.kept s fun i hi=>by
   rcases hs' with h|h
   ·exact Qd9 h i
   ·intro e
    unfold netD at e
    split at e
    ·simp at e;omega
    ·cases e) hR.only hcut q1 q2 (by rw[eV];exact q3) hR.k46 (by rw[eV];exact hR.k26) hR.size
def QfW (d u UD:Int)(xb cb lb f k B:Nat)(V:Value)(R:Nat→SL)(Z:Nat→List Int)(w0:World)(i:Nat)(q:Value)(w:World):Prop:=match i with
 | 0=>q=.pointer (some ⟨lb,f,none⟩)
 | 1=>q=V
 | 2=>q=Pt xb
 | 3=>q=I4 d
 | 4=>q=.pointer (some ⟨cb,4,none⟩)
 | 5=>q=I4 u
 | 6=>q=I4 UD
 | 7=>∃ S:SL,q=S.w∧TS B w S (Z k)
 | 8=>∃ (g:Nat) (S:SL),q=.slice (some ⟨g,0,none⟩) 1 1∧w0.heap.size≤g∧Blk 24 w g #[S.v]∧TS B w S (Z k)
 | 9=>∃ S:SL,TG B w q (k+1) (upd R k S) Z∧OB V w0 q
 | 10=>q=.pointer (some ⟨lb,f,none⟩)
 | _=>True
theorem QdD {d u UD:Int}{xb cb lb f k B:Nat}{V:Value}{R:Nat→SL}{Z:Nat→List Int}{w0:World}{i:Nat}{q:Value}{w w':World}(h:QfW d u UD xb cb lb f k B V R Z w0 i q w)(k46:Keeps 73 w w')(k26:Keeps 24 w w'):QfW d u UD xb cb lb f k B V R Z w0 i q w':=by
 unfold QfW at h ⊢
 split
 ·exact h
 ·exact h
 ·exact h
 ·exact h
 ·exact h
 ·exact h
 ·exact h
 ·obtain⟨S,e1,e2⟩:=h
  exact⟨S,e1,e2.step k46⟩
 ·obtain⟨g,S,e1,e2,e3,e4⟩:=h
  exact⟨g,S,e1,e2,k26.blk e3,e4.step k46⟩
 ·obtain⟨S,e1,e2⟩:=h
  exact⟨S,e1.step k46 k26,e2⟩
 ·exact h
 ·trivial
theorem QeP {id:Nat}{ops:Array Oper}{Q:Exit→Act→World→Prop}{a0:Act}{w0:World}(d h l v u x t n:Int)(b f xb cb sb lb N K k B:Nat)(ws:List Int)(cnt:Nat→Nat)(cs:Array Value)(Va:Option Addr)(Vn Vc:Nat)(R:Nat→SL)(Z:Nat→List Int)(WR:World)(hB:lowB ops=true)(hsz:ops.size=12)
  (o0:OpAt ops 0 (some b) (.fieldAddr 65 (.tmp 10) f) []) (o1:OpAt ops 1 (some (b+1)) (.load 63 (.tmp b)) [0]) (o2:OpAt ops 2 (some (b+2)) (.move (.tmp 7)) []) (o3:OpAt ops 3 (some (b+3)) (.move (.tmp 6)) []) (o4:OpAt ops 4 (some (b+4)) (.fieldAddr 23 (.tmp 2) 4) []) (o5:OpAt ops 5 (some (b+5)) (.load 3 (.tmp (b+4))) [4]) (o6:OpAt ops 6 (some (b+6)) (.binOp .mul 3 (.tmp (b+3)) (.tmp (b+5)) 3) [3,5])
  (o7:OpAt ops 7 (some (b+7)) (.call { callee:=.value (.func 81),args:=#[.tmp (b+2),.tmp (b+6)],argTypes:=#[111,3] }) [2,6]) (o8:OpAt ops 8 (some (b+8)) (.buildSlice 63 1 #[(0,.tmp (b+7))]) [7]) (o9:OpAt ops 9 (some (b+9)) (.call { callee:=.builtin .append,args:=#[.tmp (b+1),.tmp (b+8)],argTypes:=#[63,63] }) [1,8])
  (o10:OpAt ops 10 (some (b+10)) (.fieldAddr 65 (.tmp 10) f) []) (o11:OpAt ops 11 none (.store 63 (.tmp (b+10)) (.tmp (b+9))) [9,10])
  (hmul:∀ w,(binOp .mul 3 (I4 d) (I4 u)).run Tryz.prog w=.ok (I4 (cnt K:Int)) w) (hb10:10<b) (hs:b+11≤a0.tmps.size) (hf:f<9) (q:Blk 23 WR cb (c8 d h l v u x t n)) (h2:a0.tmps.getD 2 undef=Pt cb) (h7:a0.tmps.getD 7 undef=Pt xb) (h6:a0.tmps.getD 6 undef=I4 d) (h10:a0.tmps.getD 10 undef=Pt lb)
  (hWR:Only xb WR w0) (hc:QaH w0 xb sb N ws (offs cnt K)) (hfit:offs cnt (K+1)≤N) (hN:N≤100000) (hsb:sb≠xb) (hcx:cb≠xb) (hxl:xb<WR.heap.size) (hsl:sb<WR.heap.size) (hlb:WR.heap.size≤lb) (hBW:WR.heap.size≤B) (hBl:B≤w0.heap.size)
  (ql:Blk 65 w0 lb cs) (hcs:cs[f]? = some (.slice Va Vn Vc)) (hT:TG B w0 (.slice Va Vn Vc) k R Z) (hZ:Z k=seg cnt ws K) (hk:k≤1000)
  (fin:∀ a w v' S,a.tmps.size=a0.tmps.size→a.defers=a0.defers→(∀ s,s<b∨b+11≤s→a.tmps.getD s undef=a0.tmps.getD s undef)→Only xb WR w→QaH w xb sb N ws (offs cnt (K+1))→Blk 65 w lb (cs.setIfInBounds f v')→TG B w v' (k+1) (upd R k S) Z→OB (.slice Va Vn Vc) w0 v'→Keeps 73 w0 w→Qas 24 (Value.slice Va Vn Vc).ownBlock w0 w→w0.heap.size≤w.heap.size→Q .normal a w):(Code.region id ops true).wp Tryz.prog Q a0 w0:=by
 have hrun:∀ args w,(callFunc 81 args).run Tryz.prog w=.ok (.enter 81 args) w:=QeZ Tryz.func81 (by kernel_rfl) rfl
 obtain⟨V,eV⟩:∃ V:Value,Value.slice Va Vn Vc=V:=⟨_,rfl⟩
 have hVlt:∀ g,V.ownBlock=some g→B≤g∧g<w0.heap.size:=fun g hg=>hT.own.lt g (by rw[eV];exact hg)
 refine QaZ (by kernel_rfl) hB (Inv 12 (netD b) a0 (fun l _ w=>NetR xb sb lb f N K k B ws cnt cs V R Z WR w0 l w) (fun _=>QfW d u (cnt K:Int) xb cb lb f k B V R Z w0)) (Inv.start ⟨hWR.drew_,by obtain⟨y,c,q1,q2,q3,q4⟩:=hc;exact⟨y,c,q1,q2,⟨q3.len,q3.max,q3.wf,q3.some_,q3.cell⟩,q4⟩,fun _=>by rw[←eV];exact hT.step (fun _ _ _ e=>e) (fun _ _ _ e=>e),fun _=>ql,(fun e=>by cases e),fun _ _ _ e=>e,fun _ _ _ _ e=>e,(fun e=>by cases e),(fun e=>by cases e),Nat.le_refl _⟩) ?_ ?_
 ·intro l' i o a w ho hl hdep hI
  have hi:i<12:=by rw[←hsz];exact (Array.getElem?_eq_some_iff.1 ho).1
  have hR:=hI.world
  have hsB:=hR.size
  have inj:∀ d,netD b i=some d→∀ j d',j<12→netD b j=some d'→j≠i→d'≠d:=fun d hd j d' hj hd' hne e=>hne (QiO b j hj i hi d (by rw[hd',e]) hd)
  have ev:∀ (s:Nat),a.eval (.tmp s)=a.tmps.getD s undef:=fun _=>rfl
  have ke:∀ s,s<b→a.eval (.tmp s)=a0.tmps.getD s undef:=fun s hs=>hI.kept s fun i _=>Qd9 hs i
  have qc:Blk 23 w cb (c8 d h l v u x t n):=q.only hR.only hcx
  have l9:i≠9→(l' 9 || 9==i)=l' 9:=fun h=>by rw[show (9==i)=false by simp;omega,Bool.or_false]
  have l7:i≠7→(l' 7 || 7==i)=l' 7:=fun h=>by rw[show (7==i)=false by simp;omega,Bool.or_false]
  have l11:i≠11→(l' 11 || 11==i)=l' 11:=fun h=>by rw[show (11==i)=false by simp;omega,Bool.or_false]
  have newW:∀ {d' v' w'},netD b i=some d'→d'<b+11→i≠7→i≠9→i≠11→Bw w w'→QfW d u (cnt K:Int) xb cb lb f k B V R Z w0 i v' w'→Inv 12 (netD b) a0 (fun l _ w=>NetR xb sb lb f N K k B ws cnt cs V R Z WR w0 l w) (fun _=>QfW d u (cnt K:Int) xb cb lb f k B V R Z w0) (fun j=>l' j || j==i) (a.put (some d') v') w':=fun hD hd n7 n9 n11 hw hF=>hI.put hi hD (by omega) (inj _ hD) (hR.step (Keeps.of_below hw) (Keeps.of_below hw) (Keeps.of_below hw) (Only.of_below hw) (by simp only[l7 n7];exact hR.cut.below hw) (l9 n9) (l11 n11) (fun h=>by simp[h])) hF fun j u _ _ _ hf=>QdD hf (Keeps.of_below hw) (Keeps.of_below hw)
  have pure_:∀ {d' v'},netD b i=some d'→d'<b+11→i≠7→i≠9→i≠11→QfW d u (cnt K:Int) xb cb lb f k B V R Z w0 i v' w→Inv 12 (netD b) a0 (fun l _ w=>NetR xb sb lb f N K k B ws cnt cs V R Z WR w0 l w) (fun _=>QfW d u (cnt K:Int) xb cb lb f k B V R Z w0) (fun j=>l' j || j==i) (a.put (some d') v') w:=fun hD hd n7 n9 n11 hF=>newW hD hd n7 n9 n11 bR hF
  have VAL:∀ j,j<11→l' j=true→QfW d u (cnt K:Int) xb cb lb f k B V R Z w0 j (a.tmps.getD (b+j) undef) w:=fun j hj h=>hI.val j (b+j) (by omega) (by unfold netD;rw[if_pos hj]) h
  rcases l12 (show i<12 by omega) with rfl|rfl|rfl|rfl|rfl|rfl|rfl|rfl|rfl|rfl|rfl|rfl
  ·obtain⟨o',e1,e2,e3,e4,e5⟩:=o0
   obtain rfl:=sOp ho e1
   have dp:=Qao (ops:=ops) e5 hdep
   refine wVa (v:=.pointer (some ⟨lb,f,none⟩)) (w':=w) ho e4 ?_ (by rw[e2];exact pure_ rfl (by omega) (by decide) (by decide) (by decide) rfl)
   simp[execOp,e3,ke 10 (by omega),h10,Qax lb f hf]
  ·obtain⟨o',e1,e2,e3,e4,e5⟩:=o1
   obtain rfl:=sOp ho e1
   have dp:=Qao (ops:=ops) e5 hdep
   have ev1:a.tmps.getD (b+0) undef=.pointer (some ⟨lb,f,none⟩):=VAL 0 (by decide) (dp 0 (by decide))
   have n11:l' 11=false:=by
    cases h11:l' 11 with
    | false=>rfl
    | true=>have:=hR.d9 (hR.d11 h11);rw[hl] at this;cases this
   have cV:=(hR.pre n11).cell f hcs
   refine wVa (v:=.slice Va Vn Vc) (w':=w) ho e4 ?_ (by rw[e2];exact pure_ rfl (by omega) (by decide) (by decide) (by decide) eV)
   simp only[Nat.add_zero] at ev1
   simp[execOp,e3,ev,ev1,Qcw cV]
  ·obtain⟨o',e1,e2,e3,e4,e5⟩:=o2
   obtain rfl:=sOp ho e1
   have dp:=Qao (ops:=ops) e5 hdep
   refine wVa (v:=Pt xb) (w':=w) ho e4 ?_ (by rw[e2];exact pure_ rfl (by omega) (by decide) (by decide) (by decide) rfl)
   simp[execOp,e3,ke 7 (by omega),h7]
  ·obtain⟨o',e1,e2,e3,e4,e5⟩:=o3
   obtain rfl:=sOp ho e1
   have dp:=Qao (ops:=ops) e5 hdep
   refine wVa (v:=I4 d) (w':=w) ho e4 ?_ (by rw[e2];exact pure_ rfl (by omega) (by decide) (by decide) (by decide) rfl)
   simp[execOp,e3,ke 6 (by omega),h6]
  ·obtain⟨o',e1,e2,e3,e4,e5⟩:=o4
   obtain rfl:=sOp ho e1
   have dp:=Qao (ops:=ops) e5 hdep
   refine wVa (v:=.pointer (some ⟨cb,4,none⟩)) (w':=w) ho e4 ?_ (by rw[e2];exact pure_ rfl (by omega) (by decide) (by decide) (by decide) rfl)
   simp[execOp,e3,ke 2 (by omega),h2,(Qd7 qc).1]
  ·obtain⟨o',e1,e2,e3,e4,e5⟩:=o5
   obtain rfl:=sOp ho e1
   have dp:=Qao (ops:=ops) e5 hdep
   have ev1:a.tmps.getD (b+4) undef=.pointer (some ⟨cb,4,none⟩):=VAL 4 (by decide) (dp 4 (by decide))
   refine wVa (v:=I4 u) (w':=w) ho e4 ?_ (by rw[e2];exact pure_ rfl (by omega) (by decide) (by decide) (by decide) rfl)
   simp[execOp,e3,ev,ev1,(Qd7 qc).2]
  ·obtain⟨o',e1,e2,e3,e4,e5⟩:=o6
   obtain rfl:=sOp ho e1
   have dp:=Qao (ops:=ops) e5 hdep
   have ev1:a.tmps.getD (b+3) undef=I4 d:=VAL 3 (by decide) (dp 3 (by decide))
   have ev2:a.tmps.getD (b+5) undef=I4 u:=VAL 5 (by decide) (dp 5 (by decide))
   refine wVa (v:=I4 (cnt K:Int)) (w':=w) ho e4 ?_ (by rw[e2];exact pure_ rfl (by omega) (by decide) (by decide) (by decide) rfl)
   simp[execOp,e3,ev,ev1,ev2,hmul,eqGuard]
  ·obtain⟨o',e1,e2,e3,e4,e5⟩:=o7
   obtain rfl:=sOp ho e1
   have dp:=Qao (ops:=ops) e5 hdep
   have ev1:a.tmps.getD (b+2) undef=Pt xb:=VAL 2 (by decide) (dp 2 (by decide))
   have ev2:a.tmps.getD (b+6) undef=I4 (cnt K:Int):=VAL 6 (by decide) (dp 6 (by decide))
   have hcut':QaH w xb sb N ws (offs cnt K):=by have:=hR.cut;rw[hl] at this;exact this
   refine wCa (f:=81) (args:=#[Pt xb,I4 (cnt K:Int)]) ho e4 ?_ ((Qc9 (k:=K) hcut' hfit hN hsb).mono fun e w' hh=>?_)
   ·simp[execOp,e3,resolve,invoke,ev,ev1,ev2,Deferred.ofValue,hrun,show a.eval (.func 81)=.func (.func 81) #[] #[] from rfl]
   ·obtain⟨s,g1,g2,g3,g4⟩:=hh
    refine⟨_,g1,?_⟩
    rw[e2]
    refine hI.put hi rfl (by omega) (inj _ rfl) (hR.step (hcut'.keeps g4 (by decide)) (hcut'.keeps g4 (by decide)) (hcut'.keeps g4 (by decide)) g4 (by simpa using g3) (l9 (by decide)) (l11 (by decide)) (fun h=>by simp[h])) ⟨s,rfl,?_⟩ fun j u' _ _ _ hf=>QdD hf (hcut'.keeps g4 (by decide)) (hcut'.keeps g4 (by decide))
    rw[hZ]
    exact g2.le (Nat.le_trans hBl hsB)
  ·obtain⟨o',e1,e2,e3,e4,e5⟩:=o8
   obtain rfl:=sOp ho e1
   have dp:=Qao (ops:=ops) e5 hdep
   obtain⟨S,ev1,ts⟩:=VAL 7 (by decide) (dp 7 (by decide))
   refine wVa (v:=.slice (some ⟨w.heap.size,0,none⟩) 1 1) (w':=w.alloc (.cells #[S.w] 24)) ho e4 ?_ (by rw[e2];exact newW rfl (by omega) (by decide) (by decide) (by decide) (bNw bR _) ⟨_,S,rfl,hsB,Blk.new 24 w _,ts.below (bNw bR _)⟩)
   simp[execOp,e3,ev,ev1,Qex]
  ·obtain⟨o',e1,e2,e3,e4,e5⟩:=o9
   obtain rfl:=sOp ho e1
   have dp:=Qao (ops:=ops) e5 hdep
   have ev1:a.tmps.getD (b+1) undef=V:=VAL 1 (by decide) (dp 1 (by decide))
   obtain⟨g,S,ev2,hgB,hgq,ts⟩:=VAL 8 (by decide) (dp 8 (by decide))
   have n11:l' 11=false:=by
    cases h11:l' 11 with
    | false=>rfl
    | true=>have:=hR.d11 h11;rw[hl] at this;cases this
   have tg:=hR.tg hl
   obtain⟨i0,hi0,hz0,hz1,hz2⟩:=i24'
   obtain⟨v',w',hrn,own',hgr,_,hob⟩:=run_append_own_at (P:=Tryz.prog) w B 63 o.type 24 i0 nilS 1 24 Tryz.underlying63 hi0 hz0 hz1 hz2 rfl (by decide) V k _ tg.own ⟨g,0,none⟩ 1 1 [S.v] rfl (fun j u hj=>by
    match j,hj with
    | 0,hj=>simp at hj;subst hj;simpa [Addr.add] using hgq.cell 0 rfl) (fun u hu=>by simp at hu;subst hu;rfl) (by unfold maxLen;omega) (by omega) (Nat.le_trans hBl hsB)
   have k46:Keeps 73 w w':=Keeps.of_own hgr tg.own (by decide)
   have k59:Keeps 65 w w':=Keeps.of_own hgr tg.own (by decide)
   have kb:Qas 24 V.ownBlock w w':=Qas.of_grown hgr
   have hOB:OB V w0 v':=by
    rcases hob with h|h
    ·exact .inl h
    ·exact .inr ⟨_,hsB,h⟩
   have hTG:TG B w' v' (k+1) (upd R k S) Z:=by
    refine⟨?_,fun j hj=>?_⟩
    ·rw[QcV,Qaz,Qcp (R':=R) (fun j hj=>Qal R k S (by omega))]
     exact own'
    ·by_cases e:j=k
     ·subst e
      rw[Qaz]
      exact ts.step k46
     ·rw[Qal R k S e]
      exact (tg.row j (by omega)).step k46
   refine wVa (v:=v') (w':=w') ho e4 ?_ ?_
   ·simp only[execOp,e3,resolve,invoke,builtin,Sem.run_bind,Sem.run_pure,Result.andThen_ok,List.map_toArray,List.map_cons,List.map_nil,ev,ev1,ev2,hrn]
   ·rw[e2]
    refine hI.put hi rfl (by omega) (inj _ rfl) ⟨hR.only.grown hgr (fun g hg=>Nat.le_trans hBW (hVlt g hg).1),?_,(fun h=>by simp at h),fun _=>k59.blk (hR.pre n11),(fun h=>by simp[n11] at h),hR.k46.trans k46,hR.k26.trans kb,(fun h=>by simp),(fun h=>by simp[dp 1 (by decide)]),Nat.le_trans hsB hgr.size⟩ ⟨S,hTG,hOB⟩ fun j u' hj hlj hne hf=>?_
    ·simp only[l7 (show (9:Nat)≠7 by decide)]
     exact hR.cut.grown hgr (fun e=>by have:=(hVlt _ e).1;omega) (fun e=>by have:=(hVlt _ e).1;omega)
    ·rcases (show j=0∨j=1∨j=2∨j=3∨j=4∨j=5∨j=6∨j=7∨j=8∨j=10∨j=11 by omega) with rfl|rfl|rfl|rfl|rfl|rfl|rfl|rfl|rfl|rfl|rfl
     ·exact hf
     ·exact hf
     ·exact hf
     ·exact hf
     ·exact hf
     ·exact hf
     ·exact hf
     ·obtain⟨S',f1,f2⟩:=hf
      exact⟨S',f1,f2.step k46⟩
     ·obtain⟨g',S',f1,f2,f3,f4⟩:=hf
      exact⟨g',S',f1,f2,kb g' _ (0,0) (fun e=>by have:=(hVlt _ e.symm).2;omega) f3,f4.step k46⟩
     ·exact hf
     ·trivial
  ·obtain⟨o',e1,e2,e3,e4,e5⟩:=o10
   obtain rfl:=sOp ho e1
   have dp:=Qao (ops:=ops) e5 hdep
   refine wVa (v:=.pointer (some ⟨lb,f,none⟩)) (w':=w) ho e4 ?_ (by rw[e2];exact pure_ rfl (by omega) (by decide) (by decide) (by decide) rfl)
   simp[execOp,e3,ke 10 (by omega),h10,Qax lb f hf]
  ·obtain⟨o',e1,e2,e3,e4,e5⟩:=o11
   obtain rfl:=sOp ho e1
   have dp:=Qao (ops:=ops) e5 hdep
   obtain⟨S,tg,hOB⟩:=VAL 9 (by decide) (dp 9 (by decide))
   have ev2:a.tmps.getD (b+10) undef=.pointer (some ⟨lb,f,none⟩):=VAL 10 (by decide) (dp 10 (by decide))
   obtain⟨sa,sn,sc,ev1⟩:=tg.slice
   have qp:=hR.pre hl
   have hrn:=Qet (a:=sa) (n:=sn) (c:=sc) (qp.cell f hcs) (qp.open_ f)
   have on:Only lb w (w.setCell ⟨lb,f,none⟩ (.slice sa sn sc)):=Only.set _ _ _ _
   have k46:Keeps 73 w (w.setCell ⟨lb,f,none⟩ (.slice sa sn sc)):=Keeps.of_only on qp (by decide)
   have k26:Keeps 24 w (w.setCell ⟨lb,f,none⟩ (.slice sa sn sc)):=Keeps.of_only on qp (by decide)
   refine wSk (w':=w.setCell ⟨lb,f,none⟩ (.slice sa sn sc)) ho e4 ?_ ?_
   ·simp[execOp,e3,ev,ev1,ev2,hrn]
   ·rw[e2]
    refine hI.none_ rfl ⟨hR.only.new hlb on,?_,(fun h=>by simp[dp 9 (by decide)] at h),(fun h=>by simp at h),fun _=>⟨_,S,qp.set f (.slice sa sn sc),?_,?_⟩,hR.k46.trans k46,hR.k26.then_ k26,(fun h=>by simp[dp 9 (by decide)]),(fun h=>by simp[hR.d9 (dp 9 (by decide))]),Nat.le_trans hsB on.size⟩ fun j u' hj hlj hne hf=>QdD hf k46 k26
    ·simp only[l7 (show (11:Nat)≠7 by decide)]
     exact hR.cut.only on (by omega) (by omega)
    ·rw[ev1] at tg
     exact tg.step k46 k26
    ·rw[ev1] at hOB
     exact hOB
 ·intro l' a w hall hI
  have hR:=hI.world
  obtain⟨v',S,q1,q2,q3⟩:=hR.post (hall 11 (by omega))
  have hcut:=hR.cut
  rw[if_pos (hall 7 (by omega))] at hcut
  exact fin a w v' S hI.size hI.defers (fun s hs'=>hI.kept s fun i hi=>by
   rcases hs' with h|h
   ·exact Qd9 h i
   ·intro e
    unfold netD at e
    split at e
    ·simp at e;omega
    ·cases e) hR.only hcut q1 q2 (by rw[eV];exact q3) hR.k46 (by rw[eV];exact hR.k26) hR.size
theorem QcZ {ops:Array Oper}{rest:List Oper}{o:Oper}{a:Act}{w:World}{Q:Exit→Act→World→Prop}(hgd:o.guard=none)(s x:Operand)(ho:o.op=.call { callee:=.builtin .append,args:=#[s,x],argTypes:=#[25,25] })
  (B k:Nat) (v:Value) (Y U D:Nat→Nat→SL) (m:ModV) (y uu dd:Nat→SL) (g c:Nat) (hs:a.eval s=v) (hx:a.eval x=.slice (some ⟨g,0,none⟩) 1 c) (hT:TL B w v k Y U D m) (hc:Blk 65 w g ((List.range 9).map fun r=>(y r).v).toArray)
  (hy:TY B w y uu dd (m.f k) (m.un k) (m.dn k) (m.u k) (m.d k)) (hl:(k+1)*216≤140737488355328) (hB:B≤w.heap.size)
  (h:∀ v' w',w.grownBy w' v.ownBlock→(∀ g,v.ownBlock=some g→B≤g)→Keeps 27 w w'→Keeps 73 w w'→TL B w' v' (k+1) (upd Y k y) (upd U k uu) (upd D k dd) m→wpList Tryz.prog ops Q rest (a.put o.dst v') w'):wpList Tryz.prog ops Q (o :: rest) a w:=by
 obtain⟨i0,hi,hz0,hz1,hz2⟩:=i65'
 refine wpList_plain hgd fun K hK=>?_
 refine wp_append_own w s x 25 ho B 65 i0 _ 9 216 Tryz.underlying25 hi hz0 hz1 hz2 rfl (by decide) v k _ hs hT.own ⟨g,0,none⟩ 1 c ((List.range 9).map fun r=>(y r).v) hx (by simp) (fun j u hj=>by
  have e:(⟨g,0,none⟩:Addr).add j=⟨g,j,none⟩:=by by_cases h:j=0<;>simp[Addr.add,h]
  rw[e]
  exact hc.cell j (by simpa using hj)) (fun u hu=>by obtain⟨r,_,rfl⟩:=List.mem_map.1 hu;rfl) (by unfold maxLen;omega) hl hB fun v' w' own' hg _=>hK _ _ (h v' w' hg (fun g hg=>(hT.own.lt g hg).1) (Keeps.of_own hg hT.own (by decide)) (Keeps.of_own hg hT.own (by decide)) ?_)
 have k46:Keeps 73 w w':=Keeps.of_own hg hT.own (by decide)
 have k26:Keeps 24 w w':=Keeps.of_own hg hT.own (by decide)
 refine⟨?_,fun j hj=>?_⟩
 ·rw[Qba,Qaz,QdW (Y':=Y) (fun j hj r _=>by rw[Qal Y k y (by omega)])]
  exact own'
 ·by_cases e:j=k
  ·subst e
   rw[Qaz,Qaz,Qaz]
   exact hy.step k46 k26
  ·rw[Qal Y k y e,Qal U k uu e,Qal D k dd e]
   exact (hT.lay j (by omega)).step k46 k26
theorem TL.slice {B:Nat}{w:World}{v:Value}{n:Nat}{Y U D:Nat→Nat→SL}{m:ModV}(h:TL B w v n Y U D m):∃ s:SL,v=s.w:=by
 rcases h.own.2 with⟨e,_⟩|⟨g,cap,cur,e,_⟩
 ·exact⟨⟨none,0,0⟩,e⟩
 ·exact⟨⟨_,_,_⟩,e⟩
theorem TL.step {B:Nat}{w w':World}{v:Value}{n:Nat}{Y U D:Nat→Nat→SL}{m:ModV}(h:TL B w v n Y U D m)(k59:Keeps 65 w w')(k46:Keeps 73 w w')(k26:Keeps 24 w w'):TL B w' v n Y U D m:=⟨k59.own h.own,fun i hi=>(h.lay i hi).step k46 k26⟩
theorem TG.but {B:Nat}{w w':World}{v:Value}{k:Nat}{R:Nat→SL}{Z:Nat→List Int}{r:Option Nat}(h:TG B w v k R Z)(kb:Qas 24 r w w')(hv:∀ g,v.ownBlock=some g→r≠some g)(k46:Keeps 73 w w'):TG B w' v k R Z:=⟨kb.own hv h.own,fun j hj=>(h.row j hj).step k46⟩
structure LayS (WR:World) (xb sb lb N:Nat) (ws:List Int) (cnt:Nat→Nat) (K:Nat) (cs:Array Value) (W:World):Prop where
 only:Only xb WR W
 cut:QaH W xb sb N ws (offs cnt K)
 blk:Blk 65 W lb cs
theorem LayS.step {WR W W':World}{xb sb lb N:Nat}{ws:List Int}{cnt:Nat→Nat}{K:Nat}{cs:Array Value}(h:LayS WR xb sb lb N ws cnt K cs W)(hlb:WR.heap.size≤lb)(hx:xb<WR.heap.size)(hs:sb<WR.heap.size)(on:Only xb W W')(cut':QaH W' xb sb N ws (offs cnt (K+1)))(r:Nat){o:Value}(old:cs[r]? = some o)(s:SL){cs':Array Value}(ec:cs.setIfInBounds r (s.w)=cs') :
  ∃ V,W'.setCell ⟨lb,r,none⟩ (s.w)=V∧W'.cell? ⟨lb,r,none⟩=some o∧W'.frozen? ⟨lb,r,none⟩=false∧LayS WR xb sb lb N ws cnt (K+1) cs' V∧Keeps 73 W V∧Keeps 73 W' V:=by
 have q:=h.blk.only on (by omega)
 have o2:Only lb W' (W'.setCell ⟨lb,r,none⟩ (s.w)):=Only.set _ _ _ _
 have k2:Keeps 73 W' (W'.setCell ⟨lb,r,none⟩ (s.w)):=Keeps.of_only o2 q (by decide)
 exact⟨_,rfl,q.cell r old,q.open_ r,⟨(h.only.trans on).new hlb o2,cut'.only o2 (by omega) (by omega),ec ▸ q.set r _⟩,(h.cut.keeps on (by decide)).trans k2,k2⟩
structure ShI (A:World) (xb sb mb N:Nat) (ws:List Int) (cnt:Nat→Nat) (ne:Nat) (C:SL→SL→Array Value) (sE:SL) (m:ModV) (i:Nat) (W:World):Prop where
 only:Only xb A W
 cut:QaH W xb sb N ws (offs cnt (1+i*pl ne))
 te:TS A.heap.size W sE m.e
 mod:∃ (L:SL) (Y U D:Nat→Nat→SL),Blk 27 W mb (C sE L)∧TL A.heap.size W (L.w) i Y U D m
def Qit (u d:Value):Prop:=∀ g,u.ownBlock=some g→d.ownBlock≠some g
structure NetI (WR V6:World) (xb sb lb N:Nat) (ws:List Int) (cnt:Nat→Nat) (K0:Nat) (C:SL→SL→Array Value) (zu zd:Nat→List Int) (k:Nat) (W:World):Prop where
 only:Only xb WR W
 cut:QaH W xb sb N ws (offs cnt (K0+2*k))
 nets:∃ (u d:SL) (RU RD:Nat→SL),Blk 65 W lb (C u d)∧TG WR.heap.size W (u.w) k RU zu∧TG WR.heap.size W (d.w) k RD zd∧Qit (u.w) (d.w)
 k46:Keeps 73 V6 W
 size:V6.heap.size≤W.heap.size
theorem Qec {w0 w1:World}{B:Nat}{u d u' d':Value}{k k':Nat}{R R':Nat→SL}{Z Z':Nat→List Int}(h:Qit u d)(hd:TG B w0 d k R Z)(hu':TG B w1 u' k' R' Z')(ou:OB u w0 u')(od:OB d w1 d'):Qit u' d':=by
 intro g h1 h2
 rcases od with e|⟨b,hb,e⟩
 ·rcases ou with e'|⟨b',hb',e'⟩
  ·exact h g (by rw[←e'];exact h1) (by rw[←e];exact h2)
  ·have:b'=g:=Option.some.inj (e'.symm.trans h1)
   have:=(hd.own.lt g (by rw[←e];exact h2)).2
   omega
 ·have:b=g:=Option.some.inj (e.symm.trans h2)
  have:=(hu'.own.lt g h1).2
  omega
theorem QjG {X:World}{mb:Nat}{cs cs':Array Value}(q:Blk 27 X mb cs)(r:Nat)(s:SL){o:Value}(old:cs[r]? = some o)(ec:cs.setIfInBounds r (s.w)=cs'):∃ V,X.setCell ⟨mb,r,none⟩ (s.w)=V∧X.cell? ⟨mb,r,none⟩=some o∧X.frozen? ⟨mb,r,none⟩=false∧Blk 27 V mb cs'∧Only mb X V∧(∀ t,t≠27→Keeps t X V) :=
 ⟨_,rfl,q.cell r old,q.open_ r,ec ▸ q.set r _,Only.set _ _ _ _,fun t ht=>Keeps.of_only (Only.set _ _ _ _) q ht⟩
theorem QiV {s:Nat}(h:s ∉ [27,28,29,30,31,32,33,34,8]):∀ j,j<10→firD j≠some s:=by
 intro j hj e
 apply h
 have H:∀ j,j<10→(match firD j with|some s=>decide (s∈[27,28,29,30,31,32,33,34,8])|none=>true)=true:=by decide
 have:=H j hj
 rw[e] at this
 simpa using this
end Go.Proofs.YthliomlmhfjhnaaGreat

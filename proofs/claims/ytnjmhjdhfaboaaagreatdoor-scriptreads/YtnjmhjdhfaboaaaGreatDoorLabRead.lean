import Derived.Shelf.RegionOpen
import Derived.Test.YtnjmhjdhfaboaaaGreatDoorLabCutGroup
import Derived.OwnWalkIn
import Derived.LoopNIn
import Derived.LoopIn
import Derived.RangeFuncNested
import Derived.RangeFuncBound
set_option maxRecDepth 100000
set_option maxHeartbeats 4000000
open Nat (le_refl lt_or_ge zero_le)
open List
open Go.Proofs.Tryz
namespace Go.Proofs.YtnjmhjdhfaboaaaGreatDoor
open Go.RowKit
theorem Ā{p:Prop}(h:p):Go.RowKit.Hid p:=h
variable {P:Program}
def Mh(P:Program)(gf:Nat)(lb:Array Value)(encs:Nat->Array Value)(m n:Nat)(w:World):Prop:=
 ∀(l:Nat) (J:Nat->World->Prop) (Jx:World->Prop) (W:World),Below w.heap.size w W ->
  (∀k A q,J k A->J k (World.drewN A q)) ->
  (∀k A,k<m->J k A->YieldAt Fence.wide 0 P l (encs k) A λe A'=>e = .returned (.bool true)/\J (k+1) A') ->
  (∀A,m<n->J m A->YieldAt Fence.wide 0 P l (encs m) A λe A'=>e = .returned (.bool false)/\Jx A') ->
  J 0 W ->
  CallsIn Fence.wide 0 P gf (#[.func (.yield l) #[] #[]]++lb) W λe W'=>(∃v,e = .returned v)/\((m=n/\J n W')\/(m<n/\Jx W'))
def agB(R:World->Prop):Exit->Act->World->Prop
 | .normal,_,W=>R W
 | _,_,_=>False
def afh(R:World->Prop):Exit->Act->World->Prop
 | .ret,_,W=>R W
 | _,_,_=>False
theorem Tn{g:Operand}{ps:Array Tmp}{assign body:Code}{Q:Exit->Act->World->Prop}{a:Act}{w:World}{gf:Nat}{lb:Array Value}
  (hg:a.eval g = .func (.func gf) #[] lb) (eg:∀args w,(callFunc gf args).run P w = .ok (.enter gf args) w)
  (m n:Nat) (D:Nat->Array Value) (π:∀k,(D k).size=ps.size) (ŵ:Mh P gf lb D m n w)
  (I:Nat->World->Prop) (Ix:World->Prop)
  (Bp:∀k A l o,w.heap.size<=l->l<=w.heap.size+1->I k A->I k (A.putObj l o)) (hId:∀k A q,I k A->I k (World.drewN A q))
  (hXp:∀A l o,w.heap.size<=l->l<=w.heap.size+1->Ix A->Ix (A.putObj l o))
  (h0:∀o1 o2,I 0 ((w.alloc o1).alloc o2)) (J:Nat->Act)
  (ň:∀(l k:Nat) (W:World) (K:Act->World->Prop),K (J k) W ->
   assign.wpIn (Fence.wide.inRound l) 0 P (Exit.then K (λ_ _ _=>False)) { tmps:=(ps.zip (D k)).foldl (λt (p,v)=>t.setIfInBounds p v) a.tmps,defers:=[] } W)
  (hbody:∀(l k:Nat) (W:World),k<m->I k W->w.heap.size+1<W.heap.size ->
   body.wpIn (Fence.wide.inRound l) 0 P (agB λW'=>I (k+1) W'/\W'.heap[w.heap.size]? = W.heap[w.heap.size]? /\ W'.heap[w.heap.size+1]? = W.heap[w.heap.size+1]?) (J k) W)
  (Ċ:∀(l:Nat) (W:World),m<n->I m W->w.heap.size+1<W.heap.size ->
   body.wpIn (Fence.wide.inRound l) 0 P (afh λW'=>Ix W'/\W'.heap[w.heap.size]? = W.heap[w.heap.size]? /\ W'.heap[w.heap.size+1]? = W.heap[w.heap.size+1]?) (J m) W)
  (hdone:∀(W:World),m=n->I n W->W.heap[w.heap.size]? = some (.deferred (some []))->Q .normal { a with defers:={ target:=.collected w.heap.size,args:=#[] }::a.defers } W)
  (hstop:∀(W:World),m<n->Ix W->W.heap[w.heap.size]? = some (.deferred (some []))->Code.ret.wp P Q { a with defers:={ target:=.collected w.heap.size,args:=#[] }::a.defers } W) :
  (Code.rangeFunc g ps assign body).wp P Q a w:=by
 refine (wpIn_wide (n:=0)).1 (wpIn_rangeFunc ?_);intro fn ľ;obtain⟨z,G⟩:∃z:LoopState->Option Code->Loop,z=λst pe=>{ state:=st,pending:=pe,fn,tmps:=a.tmps,params:=ps,assign,body,defers:=w.heap.size }:=⟨_,rfl⟩
 obtain⟨Y,â⟩:=dM ((w.alloc (.deferred (some []))).alloc (.loop (z .ready none)));have hL1:Y.heap[w.heap.size+1]? = some (.loop (z .ready none)):=by
  rw[â];have:=World.alloc_heap_new (w.alloc (.deferred (some []))) (.loop (z .ready none));rwa [World.size_alloc] at this
 have Ē:Y.heap[w.heap.size]? = some (.deferred (some [])):=by
  rw[â];exact (Below.heap_alloc _ _ _ vI).trans (World.alloc_heap_new w _)
 have ώ:Below w.heap.size w Y:=by rw[â];exact ((Below.refl _ w).alloc (le_refl _) _).alloc vI _
 have hi1:I 0 Y:=by rw[â];exact h0 _ _
 refine⟨w.heap.size+1,[{ target:=.collected w.heap.size,args:=#[] }],Y,{ target:=.fn (.func gf) lb,args:=#[.func (.yield (w.heap.size+1)) #[] #[]] },Y,gf,
  #[.func (.yield (w.heap.size+1)) #[] #[]]++lb,Y,?_,?_,?_,?_,λh=>by simp[Fence.wide] at h,?_⟩
 ·rw[â,G];exact run_enterLoop_outer _ _ _ _ _
 ·simp only[resolve,hg];simp[go_sem]
 ·intro f' _;trivial
 ·simp[invoke,go_sem,eg]
 ·refine CallsIn.mono (ŵ (w.heap.size+1)
   (λk W=>I k W/\W.heap[w.heap.size+1]? = some (.loop (z .ready none))/\W.heap[w.heap.size]? = some (.deferred (some [])))
   (λW=>Ix W/\W.heap[w.heap.size+1]? = some (.loop (z .done (some .ret)))/\W.heap[w.heap.size]? = some (.deferred (some [])))
   Y ώ ?_ ?_ ?_ ⟨hi1,hL1,Ē⟩) ?_
  ·rintro k A q ⟨V,H,U⟩;exact⟨hId k A q V,H,U⟩
  ·rintro k A hk ⟨V,H,U⟩;have Ħ:=(Array.getElem?_eq_some_iff.1 H).1;have hy:=run_yield (P:=P) (args:=D k) H (by rw[G];exact π k);rw[G] at hy;refine⟨fn,_,assign,body,hy,roundIn_of_wpIn ľ (ň _ k A _ ?_)⟩;refine⟨_,run_beginRound H (by rw[G]),?_⟩;obtain⟨R,O⟩:=dM (A.putObj (w.heap.size+1) (.loop { z .ready none with state:=.busy }));rw[<-O];have hsb:R.heap.size=A.heap.size:=by rw[O];simp
   have Ë:R.heap[w.heap.size+1]? = some (.loop { z .ready none with state:=.busy }):=by rw[O];exact World.putObj_heap_same iK
   have hdb:R.heap[w.heap.size]? = some (.deferred (some [])):=by rw[O,World.putObj_heap_other iK];exact U
   have Β:I k R:=by rw[O];exact Bp k A _ _ iK iK V
   refine wpIn_mono (hbody _ k R hk Β iK) ?_;rintro e a3 W3 F;cases e with
   | normal=>
    obtain⟨hi3,Z,hl3⟩:=F;have Qd:=hl3.trans Ë;have amG:=(Array.getElem?_eq_some_iff.1 Qd).1;refine⟨_,_,run_endRound (P:=P) none Qd,rfl,Bp _ _ _ _ iK iK hi3,?_,?_⟩
    ·rw[World.putObj_heap_same iK,G];rfl
    ·rw[World.putObj_heap_other iK];exact Z.trans hdb
   | ret=>exact F.elim
   | exit id=>exact F.elim
   | goto t=>exact F.elim
   | panic ch=>exact F.elim
   | outgrown=>exact F.elim
  ·rintro A Ý ⟨V,H,U⟩;have Ħ:=(Array.getElem?_eq_some_iff.1 H).1;have hy:=run_yield (P:=P) (args:=D m) H (by rw[G];exact π m);rw[G] at hy;refine⟨fn,_,assign,body,hy,roundIn_of_wpIn ľ (ň _ m A _ ?_)⟩;refine⟨_,run_beginRound H (by rw[G]),?_⟩;obtain⟨R,O⟩:=dM (A.putObj (w.heap.size+1) (.loop { z .ready none with state:=.busy }));rw[<-O];have hsb:R.heap.size=A.heap.size:=by rw[O];simp
   have Ë:R.heap[w.heap.size+1]? = some (.loop { z .ready none with state:=.busy }):=by rw[O];exact World.putObj_heap_same iK
   have hdb:R.heap[w.heap.size]? = some (.deferred (some [])):=by rw[O,World.putObj_heap_other iK];exact U
   have Β:I m R:=by rw[O];exact Bp m A _ _ iK iK V
   refine wpIn_mono (Ċ _ R Ý Β iK) ?_;rintro e a3 W3 F;cases e with
   | ret=>
    obtain⟨hi3,Z,hl3⟩:=F;have Qd:=hl3.trans Ë;have amG:=(Array.getElem?_eq_some_iff.1 Qd).1;refine⟨_,_,run_endRound (P:=P) (some .ret) Qd,rfl,hXp _ _ _ iK iK hi3,?_,?_⟩
    ·rw[World.putObj_heap_same iK,G];rfl
    ·rw[World.putObj_heap_other iK];exact Z.trans hdb
   | normal=>exact F.elim
   | exit id=>exact F.elim
   | goto t=>exact F.elim
   | panic ch=>exact F.elim
   | outgrown=>exact F.elim
  ·rintro e W2 ⟨⟨v,rfl⟩,h⟩;rcases h with⟨Ý,V,H,U⟩|⟨Ý,V,H,U⟩
   ·refine⟨none,_,by have:=run_endLoop (P:=P) H (by rw[G];simp);rw[G] at this;exact this,hdone _ Ý (Bp _ _ _ _ iK iK V) ((World.putObj_heap_other iK).trans U)⟩
   ·refine⟨some .ret,_,by have:=run_endLoop (P:=P) H (by rw[G];simp);rw[G] at this;exact this,?_⟩;exact wpIn_wide.2 (hstop _ Ý (hXp _ _ _ iK iK V) ((World.putObj_heap_other iK).trans U))
open Go.Shelf aD
attribute [local go_sem] Oper.semAt_some
def V4:Value->Nat
 | .string s=>s.size
 | _=>0
def V5:Value->Nat
 | .bool true=>1
 | _=>0
theorem V6(s:ByteArray)(w:World):
  Calls prog 128 #[.string s] w λe w'=>e = .returned (.func (.func 179) #[] #[.pointer (some ⟨w.heap.size,0,none⟩)])/\w'=w.alloc (.cells #[.string s] 9):=by
 go_enter func128,ntmps128;go_wp2;go_ret;exact⟨rfl,rfl⟩
theorem O8(R:Nat)(s:ByteArray)(w:World)(hs:s.size<=1000000)(m n:Nat)(hm:m<=n)(Ú:1<=n)(Ő:∀i,i<n->oN s.data.toList i=decide (i+1<n))
  (Jw:w.cell? ⟨R,0,none⟩=some (.string s)) :
  Mh prog 179 #[.pointer (some ⟨R,0,none⟩)] (λk=>#[.string (txt (lU s.data.toList k))]) m n w:=by
 intro l J Jx W Ϗ hJd hJy hJx Z;have V:=World.block_lt_of_cell? w ⟨R,0,none⟩ Jw;have adP:=(Ϗ.cell (p:=⟨R,0,none⟩) V).trans Jw;have Ϣ:∀k,(txt (gQ s.data.toList k)).size<=1000000:=λk=>by
  rw[dB];have K:=Mj s.data.toList k;have U:s.data.toList.length=s.size:=Array.length_toList;omega
 have jy:=Ā Ϣ;have HJd:=Ā hJd;have HJy:=Ā hJy;have HJx:=Ā hJx;have HJ0:=Ā Z;have HM:=Ā Ő;refine callsIn_of_wp func179 rfl trivial ?_ rfl;simp only[ntmps179,size_toArray,length_cons,length_nil,Nat.reduceAdd,Nat.reduceSub,Array.replicate_succ,Array.replicate_zero,push_toArray,append_toArray,nil_append,cons_append];gi_wp2;gi_loopw [3,4,5] (λr f _ wr=>∃k:Nat,k<=m/\r = .string (txt (gQ s.data.toList k))/\f = .bool (decide (k<n))/\J k wr) (λr f _ _=>V4 r+V5 f);case atStart=>exact⟨0,zero_le _,rfl,rP,HJ0.out⟩
 case round=>
  obtain⟨k,ý,rfl,rfl,hJ⟩:=hrel;have HJ:=Ā hJ;by_cases F:k<n
  ·rw[show decide (k<n)=true from decide_eq_true F];have hcut:=λw0=>afi (txt (gQ s.data.toList k)) w0 (jy.out k)
   have hp:txt (aJ 44 (txt (gQ s.data.toList k)).data.toList).1=txt (lU s.data.toList k):=rfl;have hr:txt (aJ 44 (txt (gQ s.data.toList k)).data.toList).2.1=txt (gQ s.data.toList (k+1)):=rfl;have hf:(aJ 44 (txt (gQ s.data.toList k)).data.toList).2.2=oN s.data.toList k:=rfl;rw[hp,hr,hf,HM.out k F] at hcut;have Qh:=Ā hcut;have O:(gQ s.data.toList (k+1)).length+(if k+1<n then 1 else 0)<(gQ s.data.toList k).length+1:=by
    have hc:=pU 44 (gQ s.data.toList k);have Q:=HM.out k F;by_cases o:k+1<n
    ·rw[decide_eq_true o] at Q;have:=hc.2.2 Q;rw[if_pos o];simp only[gQ];omega
    ·rw[decide_eq_false o] at Q;have hz:gQ s.data.toList (k+1) = []:=Nq 44 _ Q;rw[if_neg o,hz];simp
   have aj0:=Ā O;clear hcut hp hr hf O;have Ĩ:(txt (gQ s.data.toList k)).size=(gQ s.data.toList k).length:=dB _;generalize txt (gQ s.data.toList k)=r0 at *;have EF:=Ā Ĩ;gi_wp2_with fail;refine⟨trivial,rfl,?_⟩;refine CallsIn.mono (callsIn_wide.2 (Qh.out _)) ?_;rintro e w1 ⟨rfl,q,rfl⟩;have G:=HJd.out k wr q HJ.out;by_cases ϗ:k<m
   ·obtain⟨fn,I,z,H,hy,Y⟩:=HJy.out k _ ϗ G;have HR:=Ā Y;gi_wp2;refine⟨rfl,?_⟩;refine RoundIn.mono HR.out ?_;rintro e W3 ⟨rfl,A⟩;have D:=Ā A;gi_wp2;go_roundw;case rel=>exact⟨k+1,iK,rfl,rfl,D.out⟩
    case measure=>
     have K:=aj0.out;have U:=EF.out;have h3:(txt (gQ s.data.toList (k+1))).size=(gQ s.data.toList (k+1)).length:=dB _;by_cases o:k+1<n
     ·rw[if_pos o] at K;simp[V4,V5,o];omega
     ·rw[if_neg o] at K;simp[V4,V5,o];omega
   ·have abp:k=m:=iK;subst abp;obtain⟨fn,I,z,H,hy,Y⟩:=HJx.out _ F G;have HR:=Ā Y;gi_wp2;refine⟨rfl,?_⟩;refine RoundIn.mono HR.out ?_;rintro e W3 ⟨rfl,A⟩;have D:=Ā A;gi_wp2;exact bodyPost_ret (v:=.tuple #[]) (results_none rfl _ _ _) rfl ⟨⟨_,rfl⟩,.inr ⟨F,D.out⟩⟩
  ·have K:k=n:=iK;have U:m=n:=iK;rw[show decide (k<n)=false from decide_eq_false F];subst K;gi_wp2;go_end0;exact⟨⟨_,rfl⟩,.inl ⟨U,HJ.out⟩⟩
attribute [local go_sem] Oper.semAt_some
structure Jy(s0:Nat)(w:World)(l:List UInt8)(k:Nat)(W:World):Prop where
 aI:Below s0 w W
 res:W.heap[s0]? = some (.cells #[.slice none 0 0] 34 (0,0))
 err:W.heap[s0+1]? = some (.cells #[.nilIface] 25 (0,0))
 row:∃v,W.heap[s0+2]? = some (.cells #[v] 34 (0,0))/\W.ownsRow (s0+6) 54 2 v k (eO (iO l k))
structure Py(s0:Nat)(w:World)(a:Addr)(W:World):Prop where
 aI:Below s0 w W
 res:W.heap[s0]? = some (.cells #[.slice none 0 0] 34 (0,0))
 err:W.heap[s0+1]? = some (.cells #[.iface 397 (.pointer (some a))] 25 (0,0))
theorem Uz{w:World}{q:Nat}{e:TypeId}{F:Nat}{v:Value}{n:Nat}{xs:List Value}(h:w.ownsRow q e F v n xs)(b:Nat)(K:b<q)(o:Obj):(w.putObj b o).ownsRow q e F v n xs:=by
 obtain⟨G,z⟩:=h;refine⟨G,?_⟩;rcases z with z|⟨g,D,A,I,J,H,t⟩
 ·exact .inl z
 ·exact .inr ⟨g,D,A,I,J,by rw[World.putObj_heap_other iK];exact H,t⟩
theorem uO{q:Nat}{w W:World}(h:Below q w W)(b:Nat)(z:q<=b)(o:Obj):Below q w (W.putObj b o):=
 h.trans ⟨rfl,rfl,rfl,vI,λk A=>World.putObj_heap_other iK⟩
theorem Jy.put{q:Nat}{w:World}{l:List UInt8}{k:Nat}{W:World}(h:Jy q w l k W)(b:Nat)(o:Obj)(I:q+4<=b)(H:b<=q+5):Jy q w l k (W.putObj b o):=by
 obtain⟨A,D,z,v,G,F⟩:=h;exact⟨uO A b iK o,(World.putObj_heap_other iK).trans D,(World.putObj_heap_other iK).trans z,v,(World.putObj_heap_other iK).trans G,Uz F b iK o⟩
theorem Jy.drewN{o:Nat}{w:World}{l:List UInt8}{k:Nat}{W:World}(h:Jy o w l k W)(q:Nat):Jy o w l k (W.drewN q):=
 ⟨below_draws h.aI q,h.res,h.err,h.row⟩
theorem Py.put{q:Nat}{w:World}{a:Addr}{W:World}(h:Py q w a W)(b:Nat)(o:Obj)(z:q+4<=b):Py q w a (W.putObj b o):=
 ⟨uO h.aI b iK o,(World.putObj_heap_other iK).trans h.res,(World.putObj_heap_other iK).trans h.err⟩
theorem zu{X:World}{q:Nat}{a b:Value}(z:X.heap[q]? = some (.cells #[a] 34 (0,0)))(D:X.heap[q+1]? = some (.cells #[b] 25 (0,0)))(o:Obj):
  (X.putObj (q+4) o).cell? ⟨q,0,none⟩=some a/\(X.putObj (q+4) o).cell? ⟨q+1,0,none⟩=some b:=by
 have A:(X.putObj (q+4) o).heap[q]? = some (.cells #[a] 34 (0,0)):=(World.putObj_heap_other iK).trans z;have F:(X.putObj (q+4) o).heap[q+1]? = some (.cells #[b] 25 (0,0)):=(World.putObj_heap_other iK).trans D;simp only[World.cell?,A,F];exact⟨rfl,rfl⟩
theorem FD{X:World}{o:Nat}{a b a' b':Value}(q:X.heap[o]? = some (.cells #[a] 34 (0,0)))(z:X.heap[o+1]? = some (.cells #[b] 25 (0,0))):
  ((X.setCell ⟨o,0,none⟩ a').setCell ⟨o+1,0,none⟩ b').heap[o]? = some (.cells #[a'] 34 (0,0))/\((X.setCell ⟨o,0,none⟩ a').setCell ⟨o+1,0,none⟩ b').heap[o+1]? = some (.cells #[b'] 25 (0,0)) /\
  (∀k,k≠o->k≠o+1->((X.setCell ⟨o,0,none⟩ a').setCell ⟨o+1,0,none⟩ b').heap[k]? = X.heap[k]?):=by
 refine⟨?_,?_,λk D A=>?_⟩
 ·rw[Below.heap_setCell _ _ _ _ (by show o≠o+1;omega),dw q 0 _];rfl
 ·rw[dw ((Below.heap_setCell _ _ _ _ (by show o+1≠o;omega)).trans z) 0 _];rfl
 ·rw[Below.heap_setCell _ _ _ _ A,Below.heap_setCell _ _ _ _ D]
theorem Qi{X Y:World}{q b i:Nat}(o:Obj)(z:q+4<b)(h:∀k,k≠q->k≠q+1->Y.heap[k]? = X.heap[k]?):(Y.putObj (q+4) o).cell? ⟨b,i,none⟩=X.cell? ⟨b,i,none⟩:=by
 have e:(Y.putObj (q+4) o).heap[b]? = X.heap[b]?:=(World.putObj_heap_other iK).trans (h b iK iK);simp only[World.cell?,e]
def abO(w w':World)(l:List UInt8)(ea:Nat->Addr)(e:Ending):Prop:=
 Below w.heap.size w w'/\((scan l [] [] [] false=none/\e = .returned (.tuple #[.slice none 0 0,.iface 397 (.pointer (some (ea 0)))])) \/
  ∃out:List (List UInt8×List UInt8),scan l [] [] [] false=some out/\1<=out.length/\out.length<=l.length+1/\(∀p,p∈out->p.1.length<=l.length/\p.2.length<=l.length) /\
   ((6<out.length/\e = .returned (.tuple #[.slice none 0 0,.iface 397 (.pointer (some (ea 1)))])) \/
   (out.length<=6/\∃m,m<=out.length/\(∀i,i<m->jQ (nameAt out) (cK out) i=true)/\(m<out.length->jQ (nameAt out) (cK out) m=false) /\
    ((m=out.length/\∃v,e = .returned (.tuple #[v,.nilIface])/\w'.ownsRow w.heap.size 54 2 v out.length (eO out)) \/
     (m<out.length/\∃pb:Nat,e = .returned (.tuple #[.slice none 0 0,.iface 72 (.pointer (some ⟨pb,0,none⟩))])/\w.heap.size<=pb/\w'.cell? ⟨pb,0,none⟩=some (.int .i64 (m:Int))/\w'.cell? ⟨pb,1,none⟩=some (.iface 397 (.pointer (some (if (isName (nameAt out m)&&isWord (cK out m))=true then ea 2 else ea 3)))))))))
theorem YM(s:ByteArray)(w:World)(hs:s.size<=100000)(ea:Nat->Addr)(e0:w.cell? ⟨1,0,none⟩=some (.iface 397 (.pointer (some (ea 0)))))(e1:w.cell? ⟨0,0,none⟩=some (.iface 397 (.pointer (some (ea 1)))))
  (e2:w.cell? ⟨2,0,none⟩=some (.iface 397 (.pointer (some (ea 2))))) (e3:w.cell? ⟨3,0,none⟩=some (.iface 397 (.pointer (some (ea 3))))) :
  Calls prog 87 #[.string s] w λe w'=>abO w w' s.data.toList ea e:=by
 obtain⟨l,hl⟩:=dM s.data.toList;have ċ:l.length=s.size:=by rw[hl];exact Array.length_toList
 obtain⟨D,Ð,hmt,hmf⟩:=YJ l;obtain⟨m,hm,hhas,adS⟩:=zY (FC l) (D+1);have Ő:∀i,i<D+1->oN l i=decide (i+1<D+1):=λi hi=>by
  rcases lt_or_ge i D with h|h
  ·rw[hmt i h];simp;omega
  ·have:i=D:=iK;subst this;rw[hmf];simp
 have HL:=Ā hl;have HMT:=Ā hmt;have YN:=Ā hmf;have aj1:=Ā Ő;have V7:=Ā hhas;have adT:=Ā adS;have g0:=World.block_lt_of_cell? w ⟨1,0,none⟩ e0;have g1:=World.block_lt_of_cell? w ⟨0,0,none⟩ e1;have g2:=World.block_lt_of_cell? w ⟨2,0,none⟩ e2;have g3:=World.block_lt_of_cell? w ⟨3,0,none⟩ e3;have HE:Hid (_/\_/\_/\_):=⟨e0,e1,e2,e3⟩;have Bq:Hid _:=λw0=>V6 s w0
 rw[<-hl];clear hl hmt hmf Ő hhas adS e0 e1 e2 e3;refine callsIn_wide.1 (callsIn_of_wp_marks (n:=0) func87 rfl trivial (wpIn_wide.2 ?_));simp only[ntmps87,size_toArray,length_cons,length_nil,Nat.reduceAdd,Nat.reduceSub,Array.replicate_succ,Array.replicate_zero,push_toArray,append_toArray,nil_append,cons_append];go_wp2_with fail;refine Calls.mono (Bq.out _) ?_;rintro e w1 ⟨rfl,rfl⟩;go_wp2;obtain⟨W0,ù⟩:=dM ((((w.alloc (.cells #[.slice none 0 0] 34)).alloc (.cells #[.nilIface] 25)).alloc (.cells #[.slice none 0 0] 34)).alloc (.cells #[.string s] 9));have þ:W0.heap.size=w.heap.size+4:=by rw[ù];simp
 have Ø:Below w.heap.size w W0:=by rw[ù];exact ((((Below.refl _ _).alloc (le_refl _) _).alloc vI _).alloc rP _).alloc rP _
 have Č:W0.heap[w.heap.size]? = some (.cells #[.slice none 0 0] 34 (0,0)):=by
  rw[ù,Below.heap_alloc _ _ _ rP,Below.heap_alloc _ _ _ rP,Below.heap_alloc _ _ _ vI];exact heap_alloc_new _ _
 have ϯ:W0.heap[w.heap.size+1]? = some (.cells #[.nilIface] 25 (0,0)):=by
  rw[ù,Below.heap_alloc _ _ _ vI,Below.heap_alloc _ _ _ vI];have:=heap_alloc_new (w.alloc (.cells #[.slice none 0 0] 34)) (.cells #[.nilIface] 25);simpa using this
 have å:W0.heap[w.heap.size+2]? = some (.cells #[.slice none 0 0] 34 (0,0)):=by
  rw[ù,Below.heap_alloc _ _ _ vI];have:=heap_alloc_new ((w.alloc (.cells #[.slice none 0 0] 34)).alloc (.cells #[.nilIface] 25)) (.cells #[.slice none 0 0] 34);simpa using this
 have ε:W0.heap[w.heap.size+3]? = some (.cells #[.string s] 9 (0,0)):=by
  rw[ù];have:=heap_alloc_new (((w.alloc (.cells #[.slice none 0 0] 34)).alloc (.cells #[.nilIface] 25)).alloc (.cells #[.slice none 0 0] 34)) (.cells #[.string s] 9);simpa using this
 rw[<-ù];have afj:Mh prog 179 #[.pointer (some ⟨w.heap.size+3,0,none⟩)] (λk=>#[.string (txt (lU l k))]) m (D+1) W0:=by
  rw[HL.out];refine O8 (w.heap.size+3) s W0 iK m (D+1) hm iK ?_ (by simp[World.cell?,ε]);rw[<-HL.out];exact aj1.out
 refine Tn (gf:=179) (lb:=#[.pointer (some ⟨w.heap.size+3,0,none⟩)]) rfl (enters_of func179 mU rfl) m (D+1) (λk=>#[.string (txt (lU l k))]) (λ_=>rfl) afj
  (Jy w.heap.size w l) (Py w.heap.size w (ea 0)) ?amH ?aj2 ?amI ?start
  (λk=>{ tmps:=#[.string s,undef,.pointer (some ⟨w.heap.size,0,none⟩),.pointer (some ⟨w.heap.size+1,0,none⟩),.pointer (some ⟨w.heap.size+2,0,none⟩),.string (txt (lU l k)),undef,undef,undef,undef,.string s,.func (.func 179) #[] #[.pointer (some ⟨w.heap.size+3,0,none⟩)],.string (txt (lU l k)),undef,undef,undef,undef,undef,undef,undef,undef,undef,undef,undef,undef,undef,undef,undef,undef,undef,undef,undef,undef,undef],defers:=[] })
  ?assign ?body ?last ?done ?stop
 case amH=>intro k A b o h1 U h;exact h.put b o iK iK
 case aj2=>intro k A q h;exact h.drewN q
 case amI=>intro A b o h1 _ h;exact h.put b o iK
 case start=>
  intro o1 o2;refine⟨(Ø.alloc iK _).alloc rP _,?_,?_,.slice none 0 0,?_,?_⟩
  ·rw[Below.heap_alloc _ _ _ rP,Below.heap_alloc _ _ _ iK];exact Č
  ·rw[Below.heap_alloc _ _ _ rP,Below.heap_alloc _ _ _ iK];exact ϯ
  ·rw[Below.heap_alloc _ _ _ rP,Below.heap_alloc _ _ _ iK];exact å
  ·exact⟨by simp[eO,iO],.inl ⟨rfl,rfl⟩⟩
 case assign=>
  intro lp k W K hK;gi_wp2;exact hK
 case body=>
  intro lp k W ý Θ ϗ;obtain⟨Á,ē,Ml,v,Z,ό⟩:=Θ;have hcut:=λw0=>Mi (txt (lU l k)) w0 (by rw[dB];have:=He l k;omega)
  have hh:=V7.out k ý;have hf:(aJ 61 (txt (lU l k)).data.toList).2.2=FC l k:=rfl;have hn:txt (aJ 61 (txt (lU l k)).data.toList).1=txt (sS l k).1:=rfl;have hvv:txt (aJ 61 (txt (lU l k)).data.toList).2.1=txt (sS l k).2:=rfl;rw[hf,hn,hvv,hh] at hcut;have Qh:=Ā hcut;gi_wp2_with fail;refine⟨trivial,rfl,?_⟩;refine CallsIn.mono (CallsIn.inRound lp (callsIn_wide.2 (Qh.out _))) ?_;rintro e I ⟨rfl,q,O⟩;have Q:Hid (I.heap=W.heap/\Below w.heap.size w I):=by rw[O];exact⟨rfl,below_draws Á q⟩
  have Ţ:I.heap[w.heap.size+2]? = some (.cells #[v] 34 (0,0)):=by rw[O];exact Z
  have Õ:I.ownsRow (w.heap.size+6) 54 2 v k (eO (iO l k)):=by rw[O];exact ό
  have HS2:Hid (I.heap.size=W.heap.size):=by rw[O];exact Eq.refl W.heap.size
  clear O;have c0:I.cell? ⟨w.heap.size+2,0,none⟩=some v:=by simp[World.cell?,Ţ]
  obtain⟨i0,hi,î,ç,ï⟩:=info_parts Tryz.infoLabel;have HI:=Ā hi;have zo:(I.alloc (.cells #[.string (txt (sS l k).1),.string (txt (sS l k).2)] 54)).ownsRow (w.heap.size+6) 54 2 v k (eO (iO l k)):=Õ.alloc _;gi_wp2_with (gi_at_builtin;refine wpListIn_append_own _ rfl _ _ 34 rfl (w.heap.size+6) 54 i0 (.agg #[.string ⟨#[]⟩,.string ⟨#[]⟩]) 2 32 underlying34 HI.out î ç ï rfl nQ _ _ _ rfl zo ⟨I.heap.size,0,none⟩ 1 1 [.string (txt (sS l k).1),.string (txt (sS l k).2)] rfl rfl (World.news_of_block (heap_alloc_new I _)) ?c2 ?c3 ?c4 ?c5 ?_);case c2=>first|exact⟨rfl,rfl⟩|(intro q O;simp at O;rcases O with rfl|rfl<;>rfl)
  case c3=>unfold maxLen;omega
  case c4=>omega
  case c5=>have:=HS2.out;simp;omega
  intro v' w3 č ϐ _;rw[O6 (iO l k) (sS l k),<-Ca] at č;have Κ:=HS2.out;have qX:∀b,b<w.heap.size+6->w3.heap[b]? = W.heap[b]?:=λb hb=>by
   have h1:(I.alloc (.cells #[.string (txt (sS l k).1),.string (txt (sS l k).2)] 54)).heap[b]? = W.heap[b]?:=by
    rw[Below.heap_alloc _ _ _ iK,Q.out.1]
   rw[ϐ.block b rP ?_,h1];intro e;rcases Õ.2 with⟨F,_⟩|⟨g,G,Y,F,hgb,_⟩
   ·rw[F] at e;simp[Value.ownBlock] at e
   ·rw[F] at e;simp[Value.ownBlock] at e;omega
  have aj3:Below w.heap.size w w3:=by
   have U:=Q.out.2;refine⟨ϐ.os.trans U.os,ϐ.tape.trans U.tape,ϐ.output.trans U.output,?_,λb hb=>?_⟩
   ·have h3:=ϐ.size;simp at h3;omega
   ·rw[qX b iK];exact Á.block b hb
  have ε:=(qX _ iK).trans Z;have d0:w3.cell? ⟨w.heap.size+2,0,none⟩=some v:=by simp[World.cell?,ε]
  have f0:w3.frozen? ⟨w.heap.size+2,0,none⟩=false:=by simp[World.frozen?,ε]
  obtain⟨ao,n',G,F⟩:∃ao n' G,v' = .slice ao n' G:=by
   rcases č.2 with⟨F,_⟩|⟨g,G,Y,F,_⟩
   ·exact⟨_,_,_,F⟩
   ·exact⟨_,_,_,F⟩
  have HV':=Ā F;have V8:=Ā qX;have aj4:=Ā aj3;have DU:=Ā č;have sU:Hid (_/\_):=⟨ē,Ml⟩;have HR3:=Ā ε;subst F;gi_wp2;refine⟨⟨aj4.out.setCell vI _,?_,?_,.slice ao n' G,?_,?_⟩,?_,?_⟩
  ·rw[Below.heap_setCell _ _ _ _ (by show w.heap.size≠w.heap.size+2;omega),V8.out _ iK];exact sU.out.1
  ·rw[Below.heap_setCell _ _ _ _ (by show w.heap.size+1≠w.heap.size+2;omega),V8.out _ iK];exact sU.out.2
  ·rw[dw HR3.out 0 _];rfl
  ·exact DK DU.out _ _ iK _
  ·rw[Below.heap_setCell _ _ _ _ (by show w.heap.size+4≠w.heap.size+2;omega),V8.out _ iK]
  ·rw[Below.heap_setCell _ _ _ _ (by show w.heap.size+4+1≠w.heap.size+2;omega),V8.out _ iK]
 case last=>
  intro lp W Ý Θ ϗ;obtain⟨Á,ē,Ml,v,Z,ό⟩:=Θ;have hcut:=λw0=>Mi (txt (lU l m)) w0 (by rw[dB];have:=He l m;omega)
  have hh:=adT.out Ý;have hf:(aJ 61 (txt (lU l m)).data.toList).2.2=FC l m:=rfl;have hn:txt (aJ 61 (txt (lU l m)).data.toList).1=txt (sS l m).1:=rfl;have hvv:txt (aJ 61 (txt (lU l m)).data.toList).2.1=txt (sS l m).2:=rfl;rw[hf,hn,hvv,hh] at hcut;have Qh:=Ā hcut;gi_wp2_with fail;refine⟨trivial,rfl,?_⟩;refine CallsIn.mono (CallsIn.inRound lp (callsIn_wide.2 (Qh.out _))) ?_;rintro e I ⟨rfl,q,O⟩;have Q:Hid (I.heap=W.heap/\Below w.heap.size w I):=by rw[O];exact⟨rfl,below_draws Á q⟩
  have H:I.heap[w.heap.size]? = some (.cells #[.slice none 0 0] 34 (0,0)):=by rw[O];exact ē
  have Pz:I.heap[w.heap.size+1]? = some (.cells #[.nilIface] 25 (0,0)):=by rw[O];exact Ml
  have ϒ:=Q.out.2;have k0:I.cell? ⟨w.heap.size,0,none⟩=some (.slice none 0 0):=by simp[World.cell?,H]
  have k1:I.cell? ⟨w.heap.size+1,0,none⟩=some .nilIface:=by simp[World.cell?,Pz]
  have z0:I.frozen? ⟨w.heap.size,0,none⟩=false:=by simp[World.frozen?,H]
  have z1:I.frozen? ⟨w.heap.size+1,0,none⟩=false:=by simp[World.frozen?,Pz]
  have x0:=(ϒ.cell (p:=⟨1,0,none⟩) g0).trans HE.out.1;have HX:Hid (_/\_/\_):=⟨ϒ,H,Pz⟩;clear O Á ē Ml ϒ H Pz;have amJ:prog.follows .mixedOrders=true:=mU;gi_wp2_with fail;gi_region_o;all_goals
   gi_wp2;have hX:=HX.out;refine⟨⟨(((hX.1.setCell (le_refl _) _).setCell vI _).trans ⟨rfl,rfl,rfl,le_refl _,λ_ _=>rfl⟩),?_,?_⟩,?_,?_⟩
   ·show (World.setCell _ _ _).heap[_]? = _;rw[Below.heap_setCell _ _ _ _ (by show w.heap.size≠w.heap.size+1;omega),dw hX.2.1 0 _];rfl
   ·show (World.setCell _ _ _).heap[_]? = _;rw[dw ((Below.heap_setCell _ _ _ _ (by show w.heap.size+1≠w.heap.size;omega)).trans hX.2.2) 0 _];rfl
   ·show (World.setCell _ _ _).heap[_]? = _;rw[Below.heap_setCell _ _ _ _ (by show _≠w.heap.size+1;omega),Below.heap_setCell _ _ _ _ (by show _≠w.heap.size;omega),Q.out.1]
   ·show (World.setCell _ _ _).heap[_]? = _;rw[Below.heap_setCell _ _ _ _ (by show _≠w.heap.size+1;omega),Below.heap_setCell _ _ _ _ (by show _≠w.heap.size;omega),Q.out.1]
 case done=>
  intro W Ý Θ hK;obtain⟨Á,ē,Ml,v,Z,ό⟩:=Θ;have ĥ:=O7 l (D+1);have J:W.ownsRow (w.heap.size+6) 54 2 v (iO l (D+1)).length (eO (iO l (D+1))):=by rw[ĥ];exact ό
  obtain⟨va,vc,rfl,hvc,adU⟩:=zX J;have YO:=Ā (YL l D (λi hi=>⟨HMT.out i hi,V7.out i iK⟩) (V7.out D iK) YN.out);have mD:Hid (∀p,p∈iO l (D+1)->p.1.length<=l.length/\p.2.length<=l.length):=λp hp=>by
   simp[iO] at hp;obtain⟨i,_,rfl⟩:=hp;exact YI l i
  rw[ĥ] at adU J hvc;have Ϣ:∀i,i<D+1->(nameAt (iO l (D+1)) i).size<=1000000/\(cK (iO l (D+1)) i).size<=1000000:=λi hi=>by
   have e:(iO l (D+1)).getD i ([],[])=sS l i:=by simp[iO,hi]
   unfold nameAt cK;rw[e,dB,dB];have:=YI l i;omega
  have hE:=HE.out;have y1:=(Á.cell (p:=⟨0,0,none⟩) g1).trans hE.2.1;have y2:=(Á.cell (p:=⟨2,0,none⟩) g2).trans hE.2.2.1;have y3:=(Á.cell (p:=⟨3,0,none⟩) g3).trans hE.2.2.2;have c2:W.cell? ⟨w.heap.size+2,0,none⟩=some (.slice va (D+1) vc):=by
   rw[ĥ] at Z;simp[World.cell?,Z]
  have HB:=Ā Á;have V:Hid (_/\_/\_):=⟨ē,Ml,hK⟩;have HOWN:=Ā J;have z:=Ā ĥ;by_cases h6:6<D+1
  ·have wN:Hid _:=Ih W va (D+1) vc h6 iK (ea 1) y1;have k0:W.cell? ⟨w.heap.size,0,none⟩=some (.slice none 0 0):=by simp[World.cell?,V.out.1]
   have k1:W.cell? ⟨w.heap.size+1,0,none⟩=some .nilIface:=by simp[World.cell?,V.out.2.1]
   have z0:W.frozen? ⟨w.heap.size,0,none⟩=false:=by simp[World.frozen?,V.out.1]
   have z1:W.frozen? ⟨w.heap.size+1,0,none⟩=false:=by simp[World.frozen?,V.out.2.1]
   go_wp2_with fail;refine Calls.mono wN.out ?_;rintro e w1 ⟨rfl,ϙ⟩;have bF:=ϙ.symm;subst bF;go_wp2;obtain⟨q0,q1,q2⟩:=FD (a':=.slice none 0 0) (b':=.iface 397 (.pointer (some (ea 1)))) V.out.1 V.out.2.1;refine⟨vI,.inl ⟨_,_,rfl,run_takeDeferred ((q2 _ iK iK).trans (by have:=V.out.2.2;rwa [þ] at this)),?_⟩⟩;obtain⟨p0,p1⟩:=zu q0 q1 (.deferred none);refine⟨.tuple #[.slice none 0 0,.iface 397 (.pointer (some (ea 1)))],by simp[results,results87,go_sem,p0,p1],?_,.inr ⟨_,YO.out,?_,?_,mD.out,.inl ⟨?_,rfl⟩⟩⟩
   ·exact uO ((HB.out.setCell (le_refl _) _).setCell vI _) _ iK _
   ·rw[z.out];omega
   ·rw[z.out];omega
   ·rw[z.out];exact h6
  ·obtain⟨mm,hmm,ϲ,Ϫ⟩:=zY (jQ (nameAt (iO l (D+1))) (cK (iO l (D+1)))) (D+1);have wN:Hid _:=Kh W va (D+1) vc _ _ adU Ϣ iK iK mm hmm ϲ Ϫ (ea 3) (ea 2) y3 y2;have iD:=Ā (And.intro ϲ Ϫ);go_wp2_with fail;refine Calls.mono wN.out ?_;rintro e w1 ⟨ώ,ϸ⟩;have Br:=HB.out.size;have i4:w.heap.size+4<W.heap.size:=by have h:=V.out.2.2;rw[þ] at h;exact (Array.getElem?_eq_some_iff.1 h).1
   have uP:w1.heap[w.heap.size]? = some (.cells #[.slice none 0 0] 34 (0,0))/\w1.heap[w.heap.size+1]? = some (.cells #[.nilIface] 25 (0,0))/\w1.heap[w.heap.size+4]? = some (.deferred (some [])):=
    ⟨(ώ.block _ iK).trans V.out.1,(ώ.block _ iK).trans V.out.2.1,(ώ.block _ iK).trans (by have h:=V.out.2.2;rwa [þ] at h)⟩
   have k0:w1.cell? ⟨w.heap.size,0,none⟩=some (.slice none 0 0):=by simp[World.cell?,uP.1]
   have k1:w1.cell? ⟨w.heap.size+1,0,none⟩=some .nilIface:=by simp[World.cell?,uP.2.1]
   have z0:w1.frozen? ⟨w.heap.size,0,none⟩=false:=by simp[World.frozen?,uP.1]
   have z1:w1.frozen? ⟨w.heap.size+1,0,none⟩=false:=by simp[World.frozen?,uP.2.1]
   have k2:=(ώ.cell (p:=⟨w.heap.size+2,0,none⟩) (by show w.heap.size+2<W.heap.size;omega)).trans c2;have R:=Ā uP;have HB1:=Ā ώ;rcases ϸ with⟨abP,rfl⟩|⟨abP,pb,rfl,ı,p0,p1⟩
   ·have k2s:(w1.setCell ⟨w.heap.size,0,none⟩ (.slice va (D+1) vc)).cell? ⟨w.heap.size+1,0,none⟩=some .nilIface:=by
     rw[World.cell?_setCell_other _ _ _ _ (by intro e;injection e with e1;omega)];exact k1
    go_wp2;obtain⟨q0,q1,q2⟩:=FD (a':=.slice va (D+1) vc) (b':=.nilIface) R.out.1 R.out.2.1;refine⟨vI,.inl ⟨_,_,rfl,run_takeDeferred ((q2 _ iK iK).trans R.out.2.2),?_⟩⟩;obtain⟨p0,p1⟩:=zu q0 q1 (.deferred none);refine⟨.tuple #[.slice va (D+1) vc,.nilIface],by simp[results,results87,go_sem,p0,p1],?_,.inr ⟨_,YO.out,?_,?_,mD.out,.inr ⟨?_,mm,?_,iD.out.1,?_,.inl ⟨?_,_,rfl,?_⟩⟩⟩⟩
    ·exact uO (((HB.out.trans (HB1.out.mono Br)).setCell (le_refl _) _).setCell vI _) _ iK _
    ·rw[z.out];omega
    ·rw[z.out];omega
    ·rw[z.out];omega
    ·rw[z.out];omega
    ·rw[z.out];exact iD.out.2
    ·rw[z.out];exact abP
    ·rw[z.out];have ϙ:w1.ownsRow (w.heap.size+6) 54 2 (.slice va (D+1) vc) (D+1) (eO (iO l (D+1))):=by
      obtain⟨h1,U⟩:=HOWN.out;refine⟨h1,?_⟩;rcases U with U|⟨g,G,Y,Z,hg,hh,t⟩
      ·exact .inl U
      ·exact .inr ⟨g,G,Y,Z,hg,(HB1.out.block _ (aC hh)).trans hh,t⟩
     have h3:=Uz (DK (DK ϙ w.heap.size 0 iK (.slice va (D+1) vc)) (w.heap.size+1) 0 iK .nilIface) (w.heap.size+4) iK (.deferred none);obtain⟨h1,U⟩:=h3;refine⟨h1,?_⟩;rcases U with U|⟨g,G,Y,Z,hg,t⟩
     ·exact .inl U
     ·exact .inr ⟨g,G,Y,Z,iK,t⟩
   ·have HP:Hid (_/\_/\_):=⟨ı,p0,p1⟩;go_wp2;obtain⟨q0,q1,q2⟩:=FD (a':=.slice none 0 0) (b':=.iface 72 (.pointer (some ⟨pb,0,none⟩))) R.out.1 R.out.2.1;refine⟨vI,.inl ⟨_,_,rfl,run_takeDeferred ((q2 _ iK iK).trans R.out.2.2),?_⟩⟩;obtain⟨p0,p1⟩:=zu q0 q1 (.deferred none);refine⟨.tuple #[.slice none 0 0,.iface 72 (.pointer (some ⟨pb,0,none⟩))],by simp[results,results87,go_sem,p0,p1],?_,.inr ⟨_,YO.out,?_,?_,mD.out,.inr ⟨?_,mm,?_,iD.out.1,?_,.inr ⟨?_,pb,rfl,?_,?_,?_⟩⟩⟩⟩
    ·exact uO (((HB.out.trans (HB1.out.mono Br)).setCell (le_refl _) _).setCell vI _) _ iK _
    ·rw[z.out];omega
    ·rw[z.out];omega
    ·rw[z.out];omega
    ·rw[z.out];omega
    ·rw[z.out];exact iD.out.2
    ·rw[z.out];exact abP
    ·have:=HP.out.1;omega
    ·exact (Qi _ (by have:=HP.out.1;omega) q2).trans HP.out.2.1
    ·exact (Qi _ (by have:=HP.out.1;omega) q2).trans HP.out.2.2
 case stop=>
  intro W Ý hx hK;have HX:=Ā hx;have HK:=Ā hK;have YO:=Ā (YK l m (λi hi=>⟨HMT.out i iK,V7.out i hi⟩) (adT.out Ý));go_wp2;refine⟨vI,.inl ⟨_,_,rfl,run_takeDeferred (by have h:=HK.out;rwa [þ] at h),?_⟩⟩;obtain⟨p0,p1⟩:=zu HX.out.res HX.out.err (.deferred none);exact⟨.tuple #[.slice none 0 0,.iface 397 (.pointer (some (ea 0)))],by simp[results,results87,go_sem,þ,p0,p1],uO HX.out.aI _ iK _,.inl ⟨YO.out,rfl⟩⟩
end Go.Proofs.YtnjmhjdhfaboaaaGreatDoor

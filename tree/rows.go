package tree

import "entail/api"

// What a group of children takes is an Op or one of these.
const (
	aType = api.Ops + iota
	anExpression
	aPattern
	aStatement
	aDeclaration
	aTarget
	aLiteral
	anElse
	aParameter
	aField
)

// unlimited stands for no upper bound of the number of children.
const unlimited = 255

// bounds are the least and the greatest number of the children of a group; without any, a group is not there.
type bounds [2]uint8

// group is some children that follow each other.
type group struct {
	takes  uint8
	bounds bounds
}

// groups has room for those of a DFunction and a DMethod.
type groups [9]group

// form says what the Text and the children of a node look like.
type form struct {
	text   func(string) bool
	groups groups
}

// row is the form of some Ops that follow each other. The tables of rows contain constants alone, so that they cost little to build.
type row struct {
	from, to int
	form     form
}

// forms returns the form of each Op.
func forms() *[api.Ops]*form {
	var out [api.Ops]*form
	for _, rows := range [...][]row{typeRows(), expressionRows(), binderRows(), statementRows(), loopRows(), clauseRows(), declarationRows()} {
		for i := range rows {
			for op := rows[i].from; op <= rows[i].to; op++ {
				out[op] = &rows[i].form
			}
		}
	}
	return &out
}

func typeRows() []row {
	return []row{
		{api.TBool, api.TReal, form{isEmpty, groups{}}},
		{api.TBits, api.TBits, form{isWidth, groups{}}},
		{api.TSeq, api.TMulti, form{isEmpty, groups{{aType, bounds{1, 1}}}}},
		{api.TMap, api.TMap, form{isEmpty, groups{{aType, bounds{2, 2}}}}},
		{api.TArray, api.TArray, form{isEmpty, groups{{aType, bounds{1, 1}}}}},
		{api.TName, api.TName, form{isGlobalUpper, groups{{aType, bounds{0, unlimited}}}}},
	}
}

func expressionRows() []row {
	return []row{
		{api.EInt, api.EInt, form{isNumber, groups{}}},
		{api.EReal, api.EReal, form{isReal, groups{}}},
		{api.EBool, api.EBool, form{isBool, groups{}}},
		{api.EVar, api.EVar, form{isGlobalLower, groups{}}},
		{api.ENot, api.ENeg, form{isEmpty, groups{{anExpression, bounds{1, 1}}}}},
		{api.EAdd, api.EShr, form{isEmpty, groups{{anExpression, bounds{2, 2}}}}},
		{api.EAs, api.EAs, form{isEmpty, groups{{anExpression, bounds{1, 1}}, {aType, bounds{1, 1}}}}},
		{api.EIf, api.EIf, form{isEmpty, groups{{anExpression, bounds{3, 3}}}}},
		{api.ELet, api.ELet, form{isLower, groups{{anExpression, bounds{2, 2}}}}},
		{api.ECall, api.ECall, form{isGlobalLower, groups{{anExpression, bounds{0, unlimited}}}}},
		{api.ECons, api.ECons, form{isGlobalUpper, groups{{anExpression, bounds{0, unlimited}}}}},
		{api.EField, api.EField, form{isLower, groups{{anExpression, bounds{1, 1}}}}},
		{api.EIs, api.EIs, form{isGlobalUpper, groups{{anExpression, bounds{1, 1}}}}},
		{api.EIndex, api.EIndex, form{isEmpty, groups{{anExpression, bounds{2, 2}}}}},
		{api.ESlice, api.EUpdate, form{isEmpty, groups{{anExpression, bounds{3, 3}}}}},
		{api.ECard, api.ECard, form{isEmpty, groups{{anExpression, bounds{1, 1}}}}},
		{api.ESeq, api.EMap, form{isEmpty, groups{{anExpression, bounds{0, unlimited}}}}},
		{api.EOld, api.EFresh, form{isEmpty, groups{{anExpression, bounds{1, 1}}}}},
	}
}

func binderRows() []row {
	return []row{
		{api.EForall, api.EExists, form{isEmpty, groups{{api.QVar, bounds{1, api.MaxVars}}, {api.QTrigger, bounds{0, 4}}, {anExpression, bounds{1, 1}}}}},
		{api.ESetOf, api.ESetOf, form{isEmpty, groups{{api.QVar, bounds{1, 1}}, {anExpression, bounds{2, 2}}}}},
		{api.EMatch, api.EMatch, form{isEmpty, groups{{anExpression, bounds{1, 1}}, {api.ECase, bounds{1, unlimited}}}}},
		{api.ECase, api.ECase, form{isEmpty, groups{{aPattern, bounds{1, 1}}, {anExpression, bounds{1, 1}}}}},
		{api.QVar, api.QVar, form{isLower, groups{{aType, bounds{1, 1}}}}},
		{api.QTrigger, api.QTrigger, form{isEmpty, groups{{anExpression, bounds{1, unlimited}}}}},
		{api.PVar, api.PVar, form{isLower, groups{}}},
		{api.PWild, api.PWild, form{isEmpty, groups{}}},
		{api.PCons, api.PCons, form{isGlobalUpper, groups{{aPattern, bounds{0, unlimited}}}}},
		{api.PLit, api.PLit, form{isEmpty, groups{{aLiteral, bounds{1, 1}}}}},
	}
}

func statementRows() []row {
	return []row{
		{api.SBlock, api.SBlock, form{isEmpty, groups{{aStatement, bounds{0, unlimited}}}}},
		{api.SVar, api.SGhostVar, form{isLower, groups{{aType, bounds{1, 1}}, {anExpression, bounds{0, 1}}}}},
		{api.SAssign, api.SAssign, form{isEmpty, groups{{aTarget, bounds{1, 1}}, {anExpression, bounds{1, 1}}}}},
		{api.SHavoc, api.SHavoc, form{isEmpty, groups{{aTarget, bounds{1, 1}}}}},
		{api.SChoose, api.SChoose, form{isLower, groups{{anExpression, bounds{1, 1}}}}},
		{api.SCall, api.SCall, form{isGlobalLower, groups{{api.SLhs, bounds{1, 1}}, {anExpression, bounds{0, unlimited}}}}},
		{api.SLhs, api.SLhs, form{isEmpty, groups{{api.EVar, bounds{0, unlimited}}}}},
		{api.SNew, api.SNew, form{isLower, groups{{api.TName, bounds{1, 1}}, {anExpression, bounds{0, unlimited}}}}},
		{api.SNewArray, api.SNewArray, form{isLower, groups{{aType, bounds{1, 1}}, {anExpression, bounds{2, 2}}}}},
		{api.SReturn, api.SReturn, form{isEmpty, groups{}}},
		{api.SPrint, api.SPrint, form{isEmpty, groups{{anExpression, bounds{1, 1}}}}},
		{api.SReveal, api.SReveal, form{isGlobalLower, groups{}}},
	}
}

// loopRows returns the forms of the statements with blocks, and of the assertions.
func loopRows() []row {
	return []row{
		{api.SIf, api.SIf, form{isEmpty, groups{{anExpression, bounds{1, 1}}, {api.SBlock, bounds{1, 1}}, {anElse, bounds{0, 1}}}}},
		{api.SAlt, api.SAlt, form{isEmpty, groups{{api.SGuard, bounds{1, unlimited}}}}},
		{api.SGuard, api.SGuard, form{isEmpty, groups{{anExpression, bounds{1, 1}}, {api.SBlock, bounds{1, 1}}}}},
		{api.SWhile, api.SWhile, form{isEmpty, groups{{anExpression, bounds{1, 1}}, {api.CInvariant, bounds{0, unlimited}}, {api.CDecreases, bounds{0, 1}}, {api.CModifies, bounds{0, unlimited}}, {api.SBlock, bounds{1, 1}}}}},
		{api.SMatch, api.SMatch, form{isEmpty, groups{{anExpression, bounds{1, 1}}, {api.SCase, bounds{1, unlimited}}}}},
		{api.SCase, api.SCase, form{isEmpty, groups{{aPattern, bounds{1, 1}}, {api.SBlock, bounds{1, 1}}}}},
		{api.SAssert, api.SAssert, form{isLabel, groups{{anExpression, bounds{1, 1}}, {api.SBlock, bounds{0, 1}}}}},
		{api.SAssume, api.SAssume, form{isEmpty, groups{{anExpression, bounds{1, 1}}}}},
		{api.SCalc, api.SCalc, form{isEmpty, groups{{api.SStep, bounds{1, unlimited}}}}},
		{api.SStep, api.SStep, form{isRelation, groups{{anExpression, bounds{1, 1}}, {api.SBlock, bounds{0, 1}}}}},
		{api.SForall, api.SForall, form{isEmpty, groups{{api.QVar, bounds{1, api.MaxVars}}, {anExpression, bounds{1, 1}}, {api.CEnsures, bounds{1, 1}}, {api.SBlock, bounds{1, 1}}}}},
	}
}

func clauseRows() []row {
	return []row{
		{api.CRequires, api.CInvariant, form{isEmpty, groups{{anExpression, bounds{1, 1}}}}},
		{api.CDecreases, api.CDecreases, form{isEmpty, groups{{anExpression, bounds{1, unlimited}}}}},
		{api.CReads, api.CModifies, form{isEmpty, groups{{anExpression, bounds{1, 1}}}}},
		{api.DParam, api.DOut, form{isLower, groups{{aType, bounds{1, 1}}}}},
		{api.DTypeParam, api.DTypeParam, form{isUpper, groups{}}},
		{api.DField, api.DGhostField, form{isLower, groups{{aType, bounds{1, 1}}}}},
		{api.DMark, api.DMark, form{isMark, groups{}}},
		{api.DResult, api.DResult, form{isEmpty, groups{{aType, bounds{1, 1}}}}},
	}
}

func declarationRows() []row {
	return []row{
		{api.DCons, api.DCons, form{isGlobalUpper, groups{{api.DField, bounds{0, unlimited}}}}},
		{api.DDatatype, api.DDatatype, form{isGlobalUpper, groups{{api.DTypeParam, bounds{0, unlimited}}, {api.DCons, bounds{1, unlimited}}}}},
		{api.DSubset, api.DSubset, form{isGlobalUpper, groups{{api.DParam, bounds{1, 1}}, {anExpression, bounds{2, 2}}}}},
		{api.DClass, api.DClass, form{isGlobalUpper, groups{{aField, bounds{0, unlimited}}}}},
		{api.DConst, api.DConst, form{isGlobalLower, groups{{aType, bounds{1, 1}}, {anExpression, bounds{1, 1}}}}},
		{api.DFunction, api.DFunction, form{isGlobalLower, groups{
			{api.DMark, bounds{0, unlimited}}, {api.DTypeParam, bounds{0, unlimited}}, {aParameter, bounds{0, unlimited}}, {api.DResult, bounds{1, 1}},
			{api.CRequires, bounds{0, unlimited}}, {api.CReads, bounds{0, unlimited}}, {api.CEnsures, bounds{0, unlimited}}, {api.CDecreases, bounds{0, 1}}, {anExpression, bounds{0, 1}},
		}}},
		{api.DMethod, api.DMethod, form{isGlobalLower, groups{
			{api.DMark, bounds{0, unlimited}}, {api.DTypeParam, bounds{0, unlimited}}, {aParameter, bounds{0, unlimited}}, {api.DOut, bounds{0, unlimited}},
			{api.CRequires, bounds{0, unlimited}}, {api.CModifies, bounds{0, unlimited}}, {api.CEnsures, bounds{0, unlimited}}, {api.CDecreases, bounds{0, 1}}, {api.SBlock, bounds{0, 1}},
		}}},
		{api.MImport, api.MImport, form{isUpper, groups{}}},
		{api.MExport, api.MExport, form{isEmpty, groups{{api.MName, bounds{0, unlimited}}}}},
		{api.MName, api.MName, form{isExport, groups{}}},
		{api.MRefines, api.MRefines, form{isUpper, groups{}}},
		{api.MModule, api.MModule, form{isModule, groups{{api.MRefines, bounds{0, 1}}, {api.MImport, bounds{0, unlimited}}, {api.MExport, bounds{0, 1}}, {aDeclaration, bounds{0, unlimited}}}}},
		{api.MProgram, api.MProgram, form{isEmpty, groups{{api.MModule, bounds{1, unlimited}}}}},
	}
}
